package bfs_test

import (
	"math"
	"slices"
	"testing"

	"reticule/api"
	"reticule/bfs"
	"reticule/prog"
	"reticule/proof"
)

func wantForm(t *testing.T, what string, p api.Program) {
	t.Helper()
	if prog.Sound(p) {
		t.Fatalf("%s: it is sound", what)
	}
	if q, wrong := bfs.Lower(p); wrong != api.ErrForm || q.Decls != nil || q.Exprs != nil || q.Stmts != nil || q.Main != nil {
		t.Errorf("%s: %v, %d", what, q, wrong)
	}
	if l := bfs.Names(p); len(l) != 0 {
		t.Errorf("%s: %v", what, l)
	}
}

func TestP17_1ProgramsThatAreNotSound(t *testing.T) {
	for what, spoil := range proof.Spoilers() {
		for _, levels := range []string{"", " (bfs ni 0)", " (bfs ni 0 (bfs ni 1 (set i 2)))"} {
			p := source(t, proof.Sturdy+levels)
			spoil(&p)
			wantForm(t, what, p)
		}
	}
	for what, spoil := range map[string]func(*api.Program){
		"levels of no column":              func(p *api.Program) { p.Stmts[1].Name = "" },
		"levels of a wrong name":           func(p *api.Program) { p.Stmts[1].Name = "+" },
		"levels without E":                 func(p *api.Program) { p.Stmts[1].E = -1 },
		"levels of an E that is none":      func(p *api.Program) { p.Stmts[1].E = math.MaxInt },
		"levels of an E that is ahead":     func(p *api.Program) { p.Stmts[1].E = 1 },
		"levels with a Cond":               func(p *api.Program) { p.Stmts[1].Cond = 0 },
		"levels with an Op":                func(p *api.Program) { p.Stmts[1].Op = api.Add },
		"levels with an act":               func(p *api.Program) { p.Stmts[1].Acts = make([]api.Act, 1) },
		"levels with Else":                 func(p *api.Program) { p.Stmts[1].Then, p.Stmts[1].Else = nil, p.Stmts[1].Then },
		"levels of themselves":             func(p *api.Program) { p.Stmts[1].Then = []int{1} },
		"levels of what is behind":         func(p *api.Program) { p.Stmts[1].Then = []int{2} },
		"levels without what stands ahead": func(p *api.Program) { p.Stmts[1].Then = nil },
		"levels twice":                     func(p *api.Program) { p.Main = append(p.Main, 1) },
		"levels that nothing has":          func(p *api.Program) { p.Main = p.Main[1:] },
	} {
		p := source(t, "(bfs a (+ 1 2) (set i 1)) (set j 2)")
		spoil(&p)
		wantForm(t, what, p)
	}
	// That comes ahead of that it would be too large.
	large := source(t, "(bfs a 0)(bfs a 0)(bfs a 0)(bfs a 0)(bfs a 0)(bfs a 0)(bfs a 0)")
	if _, wrong := bfs.Lower(large); wrong != api.ErrSpace {
		t.Error(wrong)
	}
	large.Main = large.Main[:6]
	wantForm(t, "a large one", large)
}

// What is handed in stays, and what comes out shares nothing with it, nor with what came out ahead.
func TestP3ProgramsAreTheCallers(t *testing.T) {
	for _, from := range append(append(more(), proof.Running()...), proof.Sources()...) {
		if what := proof.Shared(source(t, from), bfs.Lower); what != "" {
			t.Errorf("%s: %s", from, what)
		}
		p := proof.Program(source(t, from))
		whole := proof.Whole(p)
		first, second := bfs.Names(p), bfs.Names(p)
		if proof.Whole(p) != whole || !proof.Apart(p, first, second) {
			t.Errorf("%s: Names changes it, or has memory in common", from)
		}
		proof.Spoil(first, api.Decl{Name: "spoilt"})
		if third := bfs.Names(p); !slices.Equal(second, third) || proof.Whole(p) != whole {
			t.Errorf("%s: %v, not %v", from, third, second)
		}
	}
}

func TestP1WhateverIsHandedIn(t *testing.T) {
	sound, not := 0, 0
	for _, from := range []string{
		"(nint a) (int q1) (while (deg in) (each (pull a + out (+ (far b) (farid))) (push b max in (own a) true)) (if true ((bfs a (+ 1 i) (bfs b 0))) ((set i 1))))",
		"(bfs a 0 (set i 1)) (bfs b (not true) (fold i + 1 (id)) (while i)) (loop (count))",
	} {
		proof.Mangled(source(t, from), func(p api.Program) {
			q, wrong := bfs.Lower(p)
			if prog.Sound(p) {
				sound++
				if wrong != api.OK && wrong != api.ErrSpace || prog.Sound(q) != (wrong == api.OK) && !prog.Same(q, api.Program{}) {
					t.Errorf("%v: %d", p, wrong)
				}
				return
			}
			not++
			if wrong != api.ErrForm || len(bfs.Names(p)) != 0 {
				t.Errorf("%v: %d", p, wrong)
			}
		})
	}
	if sound < 100 || not < 1000 {
		t.Error(sound, not)
	}
	if q, wrong := bfs.Lower(api.Program{}); wrong != api.OK || !prog.Same(q, api.Program{}) || bfs.Names(api.Program{}) != nil {
		t.Error(q, wrong)
	}
}
