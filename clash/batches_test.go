package clash_test

import (
	"fmt"
	"slices"
	"strings"
	"testing"

	"reticule/api"
	"reticule/clash"
	"reticule/proof"
)

// many are acts of letters: a to c put, A to C take in by Add, x and y take a in, by Min and Max; each with numbers of its own.
func many(letters string) []api.Act {
	var l []api.Act
	for i, letter := range letters {
		a := api.Act{Kind: api.PutIt, Name: string(letter), E: i, Cond: -i, In: i%2 == 0}
		switch {
		case 'A' <= letter && letter <= 'C':
			a.Kind, a.Name, a.Op = api.PushIt, strings.ToLower(a.Name), api.Add
		case letter == 'x':
			a.Kind, a.Name, a.Op = api.PullIt, "a", api.Min
		case letter == 'y':
			a.Kind, a.Name, a.Op = api.PushIt, "a", api.Max
		}
		l = append(l, a)
	}
	return l
}

// wantBatches asks for rows of so many acts.
func wantBatches(t *testing.T, l []api.Act, lengths ...int) {
	t.Helper()
	rows := clash.Batches(l)
	var got []int
	for _, row := range rows {
		got = append(got, len(row))
	}
	if !slices.Equal(got, lengths) || !slices.Equal(slices.Concat(rows...), l) {
		t.Errorf("%v: %v, %v, not %v", l, got, rows, lengths)
	}
}

func TestP12_5Batches(t *testing.T) {
	wantBatches(t, nil)
	wantBatches(t, []api.Act{})
	wantBatches(t, make([]api.Act, 1), 1)
	for letters, lengths := range map[string]string{
		"a": "1", "ab": "2", "abc": "3", "A": "1",
		"aa": "1 1", "aaa": "1 1 1", // two that put
		"aA": "1 1", "Aa": "1 1", // one that puts, one that takes in
		"AA": "2", "AAAAA": "5", "xx": "2", // two of one Op
		"Ax": "1 1", "xy": "1 1", "xyxy": "1 1 1 1", "xxyyA": "2 2 1", // two of unlike ones
		"aba": "2 1", "abca": "3 1", "abcab": "3 2", "abcabc": "3 3", "abcb": "3 1", "abaB": "2 2", // a row goes on behind one that clashed
		"AbxBc":  "2 3",
		"AAAAAA": "6", "AAAAAAA": "6 1", "AAAAAAAAAAAA": "6 6", "AAAAAAAAAAAAA": "6 6 1", // MaxActs, and the one behind
		"AAAAABa": "6 1", "AAAAAAa": "6 1", "AAAAAAaA": "6 1 1", "AAAAAa": "5 1", "aAAAAAA": "1 6", "aAAAAAAA": "1 6 1", "AAAAAAAx": "6 1 1",
		"aBBBBBaBBBBB": "6 6", "abBBBBBB": "2 6",
	} {
		var want []int
		for _, word := range strings.Fields(lengths) {
			n := 0
			fmt.Sscan(word, &n)
			want = append(want, n)
		}
		wantBatches(t, many(letters), want...)
	}
}

// plainBatches tries each row by what Region must tell.
func plainBatches(l []api.Act) [][]api.Act {
	var rows [][]api.Act
	for len(l) > 0 {
		long := 1
		for long < min(len(l), 6) {
			if _, e := plainRegion(l[:long+1]); e != api.OK {
				break
			}
			long++
		}
		rows, l = append(rows, l[:long]), l[long:]
	}
	return rows
}

func wantPlain(t *testing.T, l []api.Act) {
	t.Helper()
	got, want := clash.Batches(l), plainBatches(l)
	if !slices.EqualFunc(got, want, slices.Equal[[]api.Act]) {
		t.Errorf("%v: %v, not %v", l, got, want)
	}
	for i, row := range got {
		wantRegion(t, row, 0, api.OK)
		if len(row) == 0 || len(row) > api.MaxActs {
			t.Errorf("%v: a row of %d", l, len(row))
		}
		if i > 0 && len(got[i-1]) < api.MaxActs {
			if _, e := clash.Region(append(slices.Clone(got[i-1]), row[0])); e == api.OK {
				t.Errorf("%v: the row ahead of %v could go on", l, row)
			}
		}
	}
}

func TestP12_5AnyBatches(t *testing.T) {
	proof.Rows(4, fewActs(), func(l []api.Act) {
		for i := range l {
			l[i].E, l[i].Cond, l[i].In = i, 9-i, i%2 == 1
		}
		wantPlain(t, l)
		wantPlain(t, slices.Repeat(l, 4))
	})
	proof.Texts(7, []string{"a", "A", "B"}, func(text string) { wantPlain(t, many(text)) })
}

func TestP12_5RowsOfTheirOwn(t *testing.T) {
	l := proof.Roomy(many("AAAAAAAABaabcxyxAAAAAAAAA"), api.Act{Name: "spare"})
	want := fmt.Sprint(l[:cap(l)])
	rows := clash.Batches(l)
	if !proof.Apart(l, rows, clash.Batches(l)) {
		t.Error("rows share memory")
	}
	again := fmt.Sprint(clash.Batches(l))
	for i, row := range rows {
		_ = append(row, api.Act{Name: "more"})
		for j := i + 1; j < len(rows); j++ {
			if rows[j][0].Name == "more" {
				t.Error("a row grows into another one")
			}
		}
		proof.Spoil(row, api.Act{Name: "spoilt"})
	}
	if fmt.Sprint(l[:cap(l)]) != want || fmt.Sprint(clash.Batches(l)) != again {
		t.Error("acts are changed")
	}
}

func TestP1WhateverIsHandedIn(t *testing.T) {
	if at, e := clash.Check(api.Program{}); at != 0 || e != api.OK {
		t.Error(at, e)
	}
	if got := clash.Reads(api.Program{}, []api.Act{{}, {E: -1, Cond: 5}}); len(got) != 0 {
		t.Error(got)
	}
	for i := range 4000 {
		var l []api.Act
		for j := range i % 9 {
			l = append(l, api.Act{Kind: api.ActKind(i * j), Name: []string{"", "a", "\xff", "b"}[(i+j)%4], Op: api.Op(i + j*j), In: i%2 == 0, E: i%11 - 3, Cond: j - 2})
		}
		wantPlain(t, l)
		at, e := plainRegion(l)
		wantRegion(t, l, at, e)
		p := source(t, "(int i) (each (put ni (via ei)) (pull nb or in (far nb))) (set i (+ (own i) 1))")
		p.Exprs[i%5].Kind, p.Stmts[i%2].Kind = api.ExprKind(i%12), api.StmtKind(i%9)
		p.Exprs[4].Kids = []int{i%7 - 1, i % 6, 0}[:i%4]
		p.Main[i%2] = i%5 - 1
		clash.Check(p)
		clash.Reads(p, l)
		clash.Writes(l)
	}
}
