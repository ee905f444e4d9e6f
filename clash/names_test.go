package clash_test

import (
	"math"
	"slices"
	"sort"
	"strings"
	"testing"

	"reticule/api"
	"reticule/clash"
	"reticule/prog"
	"reticule/proof"
)

func TestP12_2Writes(t *testing.T) {
	for text, want := range map[string]string{
		"(put a 1)":                  "a",
		"(put b 1) (put a (own c))":  "a b",
		"(put a 1) (push a + out 1)": "a", // they clash, and are named once
		"(pull c max in (far d)) (push b or out e) (put a 1) (push b or in f)": "a b c",
		"(put z 1) (put a1 1) (put aa 1) (put a 1) (put z9 1) (put b 1)":       "a a1 aa b z z9",
	} {
		if got := clash.Writes(acts(t, text)); strings.Join(got, " ") != want {
			t.Errorf("%s: %v", text, got)
		}
	}
	if got := clash.Writes(nil); len(got) != 0 {
		t.Error(got)
	}
}

func TestP12_2WritesByBytes(t *testing.T) {
	names := []string{"", "\x00", " ", "A", "Z", "a", "a\x00", "aa", "b", "e\u0301", "é", "\u20ac", "\U0001f600", "\xff"}
	if !sort.StringsAreSorted(names) {
		t.Fatal("the names are not in order")
	}
	for turn := range 3 * len(names) {
		var l []api.Act
		for i := range 2 * len(names) {
			l = append(l, act(api.ActKind(i%6), names[(i*5+turn)%len(names)], api.Op(i)))
		}
		if got := clash.Writes(l); !slices.Equal(got, names) {
			t.Errorf("%q", got)
		}
	}
	many := slices.Repeat([]api.Act{act(api.PutIt, "b", 0), act(api.PushIt, "a", 1)}, 3000)
	if got := clash.Writes(many); !slices.Equal(got, []string{"a", "b"}) {
		t.Error(got)
	}
}

func TestP12_2Reads(t *testing.T) {
	for text, want := range map[string]string{
		"(put a 1)":                             "",
		"(put a b)":                             "",
		"(push a + out (via b))":                "",
		"(put a (+ (id) (* (deg in) (count))))": "",
		"(put a (own b))":                       "b",
		"(put b (own b))":                       "b",
		"(pull a + in (far b))":                 "b",
		"(pull a + in (farid))":                 "",
		"(put a 1 (own b))":                     "b",
		"(push a + out 1 (own b))":              "b",
		"(put a (own c) (own b))":               "b c",
		"(put a (own b) (far b))":               "b",
		"(put a (+ (own z) (- (far y) (if (own x) (via w) v))) (not (= (own u) (own x))))": "u x y z",
		"(put a (own d)) (push b + out (own c) (own b)) (pull c + in (+ (far a) (far d)))": "a b c d",
		"(put a (own b2)) (put a (own b)) (put a (own bb)) (put a (own b10))":              "b b10 b2 bb",
	} {
		p := source(t, "(set i (own s)) (each "+text+") (set i (far t))")
		if got := clash.Reads(p, p.Stmts[1].Acts); strings.Join(got, " ") != want {
			t.Errorf("%s: %v, not %q", text, got, want)
		}
	}
}

// plainReads marks what is in expressions from the end on: kids stand ahead.
func plainReads(p api.Program, l []api.Act) []string {
	marks := make([]bool, len(p.Exprs))
	for at := range marks {
		for _, a := range l {
			marks[at] = marks[at] || a.E == at || a.Cond == at
		}
	}
	names := map[string]bool{}
	for at := len(marks) - 1; at >= 0; at-- {
		for _, kid := range p.Exprs[at].Kids {
			marks[kid] = marks[kid] || marks[at]
		}
		if kind := p.Exprs[at].Kind; marks[at] && (kind == api.Own || kind == api.Far) {
			names[p.Exprs[at].Name] = true
		}
	}
	var out []string
	for name := range names {
		out = append(out, name)
	}
	sort.Strings(out)
	return out
}

// Acts may be of any place of the program, and of none.
func TestP12_2ReadsOfAnyPlaces(t *testing.T) {
	for _, text := range append(append(proof.Fitting(), proof.Sources()...), "(each (put a (+ (own d) (if (far c) (own b) (own b))) (own a))) (set a (= (own e) (far f)))") {
		p := source(t, text)
		places := []int{math.MinInt, -1}
		for at := range len(p.Exprs) + 2 {
			places = append(places, at)
		}
		places = append(places, math.MaxInt)
		var all []api.Act
		for _, e := range places {
			for _, cond := range places {
				l := []api.Act{{Kind: api.ActKind((e ^ cond) & 3), Name: "zz", E: e, Cond: cond}}
				if got := clash.Reads(p, l); !slices.Equal(got, plainReads(p, l)) {
					t.Errorf("%s, %d, %d: %v", text, e, cond, got)
				}
			}
			all = append(all, api.Act{E: e, Cond: -1}, api.Act{Kind: api.PullIt, E: -1, Cond: e})
			if got := clash.Reads(p, all); !slices.Equal(got, plainReads(p, all)) {
				t.Errorf("%s, %v: %v", text, all, got)
			}
		}
		if got := clash.Reads(p, nil); len(got) != 0 {
			t.Errorf("%s: %v", text, got)
		}
	}
}

func TestProgramsThatAreNotSound(t *testing.T) {
	const text = "(nint a) (nint b) (each (put a (own b)) (push a + out (own a))) (set i (+ 1 2))"
	for what, spoil := range map[string]func(*api.Program){
		"a declaration of no Kind":       func(p *api.Program) { p.Decls[0].Kind = api.NoKind },
		"a statement twice in Main":      func(p *api.Program) { p.Main = append(p.Main, 0) },
		"no Main":                        func(p *api.Program) { p.Main = nil },
		"a call of itself":               func(p *api.Program) { p.Exprs[4].Kids = []int{4, 4} },
		"a call of places that are none": func(p *api.Program) { p.Exprs[4].Kids = []int{-1, math.MaxInt} },
		"a call of an Op 99":             func(p *api.Program) { p.Exprs[4].Op = 99 },
		"an expression of no Kind":       func(p *api.Program) { p.Exprs[4].Kind = api.NoExpr },
		"an expression too many":         func(p *api.Program) { p.Exprs = append(p.Exprs, api.Expr{Kind: api.Id}) },
		"a wrong name":                   func(p *api.Program) { p.Exprs[0].Name = "+" },
		"an act of no Kind":              func(p *api.Program) { p.Stmts[0].Acts[1].Kind = api.NoAct },
		"an act of an Op 99":             func(p *api.Program) { p.Stmts[0].Acts[1].Op = 99 },
		"an act whose E is none":         func(p *api.Program) { p.Stmts[0].Acts[1].E = 99 },
		"too many acts":                  func(p *api.Program) { p.Stmts[0].Acts = slices.Repeat(p.Stmts[0].Acts, 4) },
		"no acts":                        func(p *api.Program) { p.Stmts[0].Acts = nil },
		"a statement of a Kind 99":       func(p *api.Program) { p.Stmts[1].Kind = 99 },
		"a set with acts":                func(p *api.Program) { p.Stmts[1].Acts = p.Stmts[0].Acts },
	} {
		p := source(t, text)
		l := slices.Clone(p.Stmts[0].Acts)
		if got := clash.Reads(p, l); !slices.Equal(got, []string{"a", "b"}) {
			t.Fatal(got)
		}
		if at, e := clash.Check(p); at != 0 || e != api.ErrConflict {
			t.Fatal(at, e)
		}
		spoil(&p)
		if prog.Sound(p) {
			t.Fatalf("%s: it is sound", what)
		}
		if got := clash.Reads(p, l); len(got) != 0 {
			t.Errorf("%s: %v", what, got)
		}
		if at, e := clash.Check(p); at != -1 || e != api.ErrForm {
			t.Errorf("%s: %d, %d", what, at, e)
		}
	}
}

func TestP3WhatIsHandedInStays(t *testing.T) {
	for _, text := range append(proof.Fitting(), proof.Sources()...) {
		p := proof.Program(source(t, text))
		want := proof.Whole(p)
		clash.Check(p)
		for _, s := range p.Stmts {
			clash.Region(s.Acts)
			rows, reads, writes := clash.Batches(s.Acts), clash.Reads(p, s.Acts), clash.Writes(s.Acts)
			if !proof.Apart(p, rows, reads, writes, clash.Batches(s.Acts), clash.Reads(p, s.Acts), clash.Writes(s.Acts)) {
				t.Errorf("%q: lists share memory", text)
			}
			for _, row := range rows {
				proof.Spoil(row, api.Act{Name: "spoilt"})
			}
			proof.Spoil(reads, "spoilt")
			proof.Spoil(writes, "spoilt")
		}
		if proof.Whole(p) != want {
			t.Errorf("%q is changed", text)
		}
	}
}

// E1, P6: the order in which names are met is of no matter, nor what was asked ahead.
func TestP6AnswersHangOnNoOrder(t *testing.T) {
	p := source(t, "(each (put a (+ (own h) (own g))) (put b (+ (own f) (own e))) (put c (+ (own d) (own c))) (put d (+ (own b) (own a))))")
	l := slices.Clone(p.Stmts[0].Acts)
	for range 100 {
		if strings.Join(clash.Reads(p, l), "") != "abcdefgh" || strings.Join(clash.Writes(l), "") != "abcd" {
			t.Fatal(clash.Reads(p, l), clash.Writes(l))
		}
		wantRegion(t, append(slices.Clone(l), l[2], l[1]), 4, api.ErrConflict)
		slices.Reverse(l)
		wantRegion(t, l, 0, api.OK)
	}
}
