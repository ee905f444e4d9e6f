package norm_test

import (
	"testing"

	"reticule/api"
	"reticule/norm"
	"reticule/prog"
	"reticule/proof"
	"reticule/typed"
)

// calls are those that make a program of another one.
func calls() map[string]func(api.Program) (api.Program, api.Errno) {
	return map[string]func(api.Program) (api.Program, api.Errno){"Normal": norm.Normal, "Simple": norm.Simple}
}

func wantForm(t *testing.T, what string, p api.Program) {
	t.Helper()
	if prog.Sound(p) {
		t.Fatalf("%s: it is sound", what)
	}
	for name, call := range calls() {
		if q, wrong := call(p); wrong != api.ErrForm || !isEmpty(q) {
			t.Errorf("%s: %s: %v, %d", what, name, q, wrong)
		}
	}
	if got := (told{norm.Loops(p), norm.Size(p), norm.Is(p)}); got != (told{}) {
		t.Errorf("%s: %v", what, got)
	}
}

func TestP18_1AndP18_5ProgramsThatAreNotSound(t *testing.T) {
	for what, spoil := range proof.Spoilers() {
		for _, more := range []string{"", " (loop b (set i (+ 1 2)))", " (bfs ni 0 (loop b))", " (each (pull ni + out 1)) (if true () ())"} {
			p := source(t, proof.Sturdy+more)
			spoil(&p)
			wantForm(t, what, p)
		}
	}
	for what, spoil := range map[string]func(*api.Program){
		"a loop in itself":                func(p *api.Program) { p.Stmts[2].Then = []int{2} },
		"a loop without E":                func(p *api.Program) { p.Stmts[2].E = -1 },
		"a loop of a wrong E":             func(p *api.Program) { p.Stmts[2].E = 99 },
		"a loop with Else":                func(p *api.Program) { p.Stmts[2].Else = []int{1} },
		"a loop of what nothing is":       func(p *api.Program) { p.Stmts[2].Then = []int{-1, 7} },
		"a loop with a name":              func(p *api.Program) { p.Stmts[2].Name = "a" },
		"a loop that nothing has":         func(p *api.Program) { p.Main = p.Main[:1] },
		"a call that two statements have": func(p *api.Program) { p.Stmts[1].E = p.Stmts[0].E },
		"a call of more":                  func(p *api.Program) { p.Exprs[2].Kids = []int{0, 1, 1} },
		"a call of no Op":                 func(p *api.Program) { p.Exprs[2].Op = api.NoOp },
		"a call of what is behind":        func(p *api.Program) { p.Exprs[2].Kids = []int{3, 4} },
		"a truth of 2":                    func(p *api.Program) { p.Exprs[3].Num = 2 },
	} {
		p := source(t, "(int a) (set a (+ 1 2)) (loop true (set a 3))")
		spoil(&p)
		wantForm(t, what, p)
	}
}

// What is handed in stays, and what comes out shares nothing with it, nor with what came out ahead.
func TestP3ProgramsAreTheCallers(t *testing.T) {
	for _, from := range append(append(more(), proof.Running()...), proof.Sources()...) {
		p := proof.Program(source(t, from))
		whole := proof.Whole(p)
		norm.Loops(p)
		norm.Size(p)
		norm.Is(p)
		if proof.Whole(p) != whole {
			t.Errorf("%s: it changed", from)
		}
		for name, call := range calls() {
			if what := proof.Shared(source(t, from), call); what != "" {
				t.Errorf("%s of %s: %s", name, from, what)
			}
		}
	}
}

func TestP1WhateverIsHandedIn(t *testing.T) {
	found := map[string]int{}
	for _, from := range []string{
		"(nint a) (nint b) (int i) (while (= (count) 1) (each (pull a + out (+ (far b) (farid))) (push b max in (own a) true)) (if true ((bfs a (+ 1 2) (bfs b 0))) ((set i 1))))",
		"(int i) (bool b) (loop (not true) (set i (if (< 1 2) i 4)) (loop b (fold i + 1 (= 1 (id))) (while false)))",
	} {
		proof.Mangled(source(t, from), func(p api.Program) {
			normal, wrong := norm.Normal(p)
			simple, also := norm.Simple(p)
			sound := prog.Sound(p)
			_, misfit := typed.Check(p)
			if (wrong == api.ErrForm) == sound || wrong != api.OK && !isEmpty(normal) || wrong == api.OK && !norm.Is(normal) || wrong != api.OK && wrong != api.ErrForm && wrong != api.ErrSpace {
				t.Errorf("Normal of %v: %d", p, wrong)
			}
			if (also == api.OK) != (misfit == api.OK) || also != api.OK && (also != api.ErrForm || !isEmpty(simple)) || also == api.OK && !prog.Sound(simple) {
				t.Errorf("Simple of %v: %d", p, also)
			}
			if norm.Loops(p) < 0 || (norm.Size(p) > 0) != sound || norm.Is(p) && !sound {
				t.Errorf("%v: %d, %d, %v", p, norm.Loops(p), norm.Size(p), norm.Is(p))
			}
			if sound {
				found["sound"]++
			} else {
				found["not"]++
			}
			if misfit == api.OK {
				found["fits"]++
			}
		})
	}
	if found["sound"] < 100 || found["not"] < 1000 || found["fits"] < 50 {
		t.Error(found)
	}
	for name, call := range calls() {
		if q, wrong := call(api.Program{}); wrong != api.OK || !prog.Same(q, api.Program{}) {
			t.Error(name, q, wrong)
		}
	}
	if got := (told{norm.Loops(api.Program{}), norm.Size(api.Program{}), norm.Is(api.Program{})}); got != (told{is: true}) {
		t.Error(got)
	}
}
