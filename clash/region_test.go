package clash_test

import (
	"fmt"
	"math"
	"slices"
	"testing"

	"reticule/api"
	"reticule/clash"
	"reticule/num"
	"reticule/perm"
	"reticule/prog"
	"reticule/proof"
)

// The calls have the signatures that the chapter lists.
var (
	_ func(api.Program) (int, api.Errno)        = clash.Check
	_ func([]api.Act) (int, api.Errno)          = clash.Region
	_ func(p api.Program, l []api.Act) []string = clash.Reads
	_ func([]api.Act) []string                  = clash.Writes
	_ func([]api.Act) [][]api.Act               = clash.Batches
)

func source(t *testing.T, text string) api.Program {
	t.Helper()
	p, at, e := prog.Source(text)
	if at != 0 || e != api.OK {
		t.Fatalf("%q is no program: %d, %d", text, at, e)
	}
	return p
}

// acts are those of a region.
func acts(t *testing.T, text string) []api.Act {
	t.Helper()
	return source(t, "(each "+text+")").Stmts[0].Acts
}

func act(kind api.ActKind, name string, o api.Op) api.Act {
	return api.Act{Kind: kind, Name: name, Op: o, E: -1, Cond: -1}
}

// plainRegion holds each act against all ahead of it.
func plainRegion(l []api.Act) (int, api.Errno) {
	for at := range l {
		for ahead := range at {
			a, b := l[ahead], l[at]
			if a.Name == b.Name && (a.Kind == api.PutIt || b.Kind == api.PutIt || a.Op != b.Op) {
				return at, api.ErrConflict
			}
		}
	}
	return 0, api.OK
}

// fewActs are acts that clash, and do not; some of them none.
func fewActs() []api.Act {
	return []api.Act{
		act(api.PutIt, "a", api.NoOp), act(api.PushIt, "a", api.Add), act(api.PullIt, "a", api.Add), act(api.PushIt, "a", api.Max), act(api.PullIt, "b", api.Max), act(api.PutIt, "b", api.NoOp),
		act(api.PutIt, "a", api.Add), act(api.NoAct, "a", api.Add), act(9, "a", 99), act(api.PullIt, "a", api.NoOp), act(api.PushIt, "", api.Add),
	}
}

func wantRegion(t *testing.T, l []api.Act, at int, e api.Errno) {
	t.Helper()
	if gotAt, got := clash.Region(l); gotAt != at || got != e {
		t.Errorf("%v: %d, %d, not %d, %d", l, gotAt, got, at, e)
	}
}

func TestP12_1Region(t *testing.T) {
	for text, at := range map[string]int{
		"(put a 1)":           0,
		"(push a + out 1)":    0,
		"(put a 1) (put b 2)": 0,
		"(put a 1) (push b + out 1) (pull c or in true)":                        0,
		"(put a 1) (put a 1)":                                                   1, // two that put
		"(put a 1) (put a 2)":                                                   1,
		"(put a 1 true) (put a 1 false)":                                        1,
		"(put a 1) (push a + out 1)":                                            1, // one that puts, one that takes in
		"(push a + out 1) (put a 1)":                                            1,
		"(put a 1) (pull a + out 1)":                                            1,
		"(pull a max in 1) (put a 1)":                                           1,
		"(push a + out 1) (push a + out 1)":                                     0, // two of one Op
		"(push a + out 1) (push a + in 2 true)":                                 0,
		"(push a min out 1) (pull a min in 2)":                                  0,
		"(pull a or in b) (push a or out (own c))":                              0,
		"(push a + out 1) (push a max out 1)":                                   1, // two of unlike ones
		"(push a min out 1) (pull a max out 1)":                                 1,
		"(pull a and out b) (pull a or out b)":                                  1,
		"(pull a and out b) (push a or out b)":                                  1,
		"(put a 1) (put b 1) (put a 1)":                                         2,
		"(put a 1) (put b 1) (put b 1) (put a 1)":                               2, // the first one that clashes with one ahead
		"(push a + out 1) (push b + out 1) (push a + out 1) (push b max out 1)": 3,
		"(push a + out 1) (push a + out 1) (push a max out 1) (put a 1)":        2,
		"(put a 1) (put aa 1) (put b 1) (put aaa 1)":                            0,
	} {
		want := api.OK
		if at > 0 {
			want = api.ErrConflict
		}
		wantRegion(t, acts(t, text), at, want)
	}
}

func TestP12_1AnyRegion(t *testing.T) {
	proof.Rows(4, fewActs(), func(l []api.Act) {
		at, e := plainRegion(l)
		wantRegion(t, l, at, e)
	})
}

// Only Name, Kind and Op matter.
func TestP12_1WhatIsOfNoMatter(t *testing.T) {
	proof.Rows(3, fewActs(), func(l []api.Act) {
		at, e := plainRegion(l)
		for i := range l {
			l[i].In, l[i].E, l[i].Cond = i%2 == 0, math.MaxInt-i, i
		}
		wantRegion(t, l, at, e)
	})
}

func TestP12_1EachOpAndKind(t *testing.T) {
	for o := range 256 {
		for p := range 256 {
			want := api.OK
			if o != p {
				want = api.ErrConflict
			}
			at := int(want) / int(api.ErrConflict)
			wantRegion(t, []api.Act{act(api.PushIt, "a", api.Op(o)), act(api.PullIt, "a", api.Op(p))}, at, want)
			wantRegion(t, []api.Act{act(api.PutIt, "a", api.Op(o)), act(api.PullIt, "a", api.Op(p))}, 1, api.ErrConflict)
			wantRegion(t, []api.Act{act(api.PushIt, "a", api.Op(o)), act(api.PutIt, "a", api.Op(p))}, 1, api.ErrConflict)
			wantRegion(t, []api.Act{act(api.ActKind(o), "a", 0), act(api.ActKind(p), "b", 0)}, 0, api.OK)
			if o != int(api.PutIt) && p != int(api.PutIt) {
				wantRegion(t, []api.Act{act(api.ActKind(o), "a", 5), act(api.ActKind(p), "a", 5)}, 0, api.OK)
			}
		}
	}
}

func TestP12_1HowManyActs(t *testing.T) {
	wantRegion(t, nil, 0, api.OK)
	wantRegion(t, []api.Act{}, 0, api.OK)
	wantRegion(t, []api.Act{{}}, 0, api.OK)
	for _, many := range []int{1, 2, api.MaxActs - 1, api.MaxActs, api.MaxActs + 1, 100, 5000} {
		l := slices.Repeat([]api.Act{act(api.PushIt, "a", api.Add)}, many)
		wantRegion(t, l, 0, api.OK)
		wantRegion(t, append(l, act(api.PutIt, "b", 0)), 0, api.OK)
		wantRegion(t, append(l, act(api.PutIt, "a", 0)), many, api.ErrConflict)
		wantRegion(t, append(l, act(api.PullIt, "a", api.Min), act(api.PutIt, "a", 0)), many, api.ErrConflict)
		var puts []api.Act
		for i := range many {
			puts = append(puts, act(api.PutIt, fmt.Sprint("a", i), 0))
		}
		wantRegion(t, puts, 0, api.OK)
		wantRegion(t, append(puts, puts[many/2]), many, api.ErrConflict)
	}
}

func TestP12_1NamesOfAnyBytes(t *testing.T) {
	names := []string{"", "a", "A", "a ", "aa", "\x00", "\xff", "é", "e\u0301"}
	var l []api.Act
	for _, name := range names {
		l = append(l, act(api.PutIt, name, 0))
	}
	wantRegion(t, l, 0, api.OK)
	for _, a := range l {
		wantRegion(t, append(slices.Clone(l), a), len(l), api.ErrConflict)
	}
}

func wantCheck(t *testing.T, text string, at int, e api.Errno) {
	t.Helper()
	if gotAt, got := clash.Check(source(t, text)); gotAt != at || got != e {
		t.Errorf("%s: %d, %d, not %d, %d", text, gotAt, got, at, e)
	}
}

func TestP12_1Check(t *testing.T) {
	for _, text := range []string{
		"", "(int a)", "(int a) (int a)", "(set a 1) (set a 2)", "(fold a + 1) (fold a max 2)", "(each (put a 1))",
		"(each (put a 1)) (each (put a 1)) (each (push a + out 1)) (each (push a max out 1))", // each region for itself
		"(each (put a 1) (put b (own a)) (push c + out (own b)) (pull c + in (far c)))", "(bfs a 0 (each (put a 1)))",
		"(set a 1) (each (put a a))", "(fold a + (own a)) (each (push a max out 1))",
	} {
		wantCheck(t, text, 0, api.OK)
	}
	for _, text := range proof.Fitting() {
		wantCheck(t, text, 0, api.OK)
	}
	const wrong = "(each (put b 1) (put a 1) (push a + out 1))"
	for text, at := range map[string]int{
		wrong: 0, "(nint a) (nint b)" + wrong: 0,
		"(set i 1)" + wrong: 1,
		"(each (put a 1)) (each (put b 1))" + wrong + wrong:                                               2,
		"(if c (" + wrong + ") ())":                                                                       0, // those in it stand ahead of it
		"(if c ((set i 1)) ((set i 2) " + wrong + "))" + wrong:                                            2,
		"(while c (set i 1) (loop d (set i 2) (bfs e 0 " + wrong + "))) (each (put a 1))":                 2,
		"(while c (set i 1) (loop d (set i 2) (bfs e 0 (each (put a 1))))) " + wrong:                      6,
		"(while c (each (put a 1)) (each (push a + out 1) (push a or out 1)) (each (put b 1) (put b 2)))": 1,
		"(nint a) (each (put a 1) (push a + out 1))":                                                      0, // the document's example
	} {
		wantCheck(t, text, at, api.ErrConflict)
	}
}

func TestP12_1CheckOfAnyRegion(t *testing.T) {
	pieces := []string{" (put a 1)", " (push a + out 1)", " (push a max in 2)", " (pull a + in 3)", " (pull b or in 3)", " (put b 4)"}
	proof.Texts(4, pieces, func(text string) {
		if text == "" {
			return
		}
		p := source(t, "(set i 1) (each"+text+")")
		at, e := plainRegion(p.Stmts[1].Acts)
		if e != api.OK {
			at = 1
		}
		if gotAt, got := clash.Check(p); gotAt != at || got != e {
			t.Errorf("%s: %d, %d, not %d, %d", text, gotAt, got, at, e)
		}
	})
}

// orders does f with a row in all its orders.
func orders(l []api.Act, f func([]api.Act)) {
	for k := range perm.Many(len(l)) {
		order, _ := perm.From(len(l), k)
		row := make([]api.Act, len(l))
		for i, at := range order {
			row[i] = l[at]
		}
		f(row)
	}
}

func TestP12_3WhetherActsClashHangsOnNoOrder(t *testing.T) {
	proof.Rows(4, fewActs()[:8], func(l []api.Act) {
		_, want := clash.Region(l)
		orders(l, func(row []api.Act) {
			if _, e := clash.Region(row); e != want {
				t.Errorf("%v: %d, but %v: %d", l, want, row, e)
			}
		})
	})
}

func TestP12_4FewerActsDoNotClash(t *testing.T) {
	proof.Rows(4, fewActs(), func(l []api.Act) {
		if _, e := clash.Region(l); e != api.OK {
			return
		}
		for which := range 1 << len(l) {
			var fewer []api.Act
			for i, a := range l {
				if which>>i&1 == 1 {
					fewer = append(fewer, a)
				}
			}
			wantRegion(t, fewer, 0, api.OK)
		}
	})
}

// behind are the values of names behind acts that are done one behind the other; the act's E is what it puts, or takes in.
func behind(l []api.Act) string {
	values := map[string]api.Word{"a": 3, "b": 5}
	for _, a := range l {
		w := api.Word(a.E)
		if a.Kind != api.PutIt {
			w, _ = num.Do(a.Op, values[a.Name], w)
		}
		values[a.Name] = w
	}
	return fmt.Sprint(values)
}

// E2: what comes out of acts that do not clash hangs on no order; of two that clash it does.
func TestE2ActsThatDoNotClashInWhateverOrder(t *testing.T) {
	things := append(fewActs()[:6], act(api.PullIt, "b", api.And), act(api.PushIt, "b", api.Or), act(api.PushIt, "a", api.Min))
	proof.Rows(4, things, func(l []api.Act) {
		for i := range l {
			l[i].E = 2*i - 1
		}
		_, e := clash.Region(l)
		want := behind(l)
		orders(l, func(row []api.Act) {
			if e == api.OK && behind(row) != want {
				t.Errorf("%v: %s, not %s", row, behind(row), want)
			}
		})
	})
	for _, l := range [][]api.Act{{act(api.PutIt, "a", 0), act(api.PutIt, "a", 0)}, {act(api.PutIt, "a", 0), act(api.PushIt, "a", api.Add)}, {act(api.PushIt, "a", api.Add), act(api.PullIt, "a", api.Max)}} {
		l[0].E, l[1].E = 7, 9
		if _, e := clash.Region(l); e != api.ErrConflict || behind(l) == behind([]api.Act{l[1], l[0]}) {
			t.Error(l, e)
		}
	}
}
