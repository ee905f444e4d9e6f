package flip_test

import (
	"fmt"
	"math"
	"testing"

	"reticule/api"
	"reticule/flip"
	"reticule/prog"
	"reticule/proof"
)

// calls are those that make a program of another one.
func calls() map[string]func(api.Program) (api.Program, api.Errno) {
	return map[string]func(api.Program) (api.Program, api.Errno){"Pushed": flip.Pushed, "Turned": flip.Turned, "Split": flip.Split}
}

func wantForm(t *testing.T, what string, p api.Program) {
	t.Helper()
	if prog.Sound(p) {
		t.Fatalf("%s: it is sound", what)
	}
	for name, call := range calls() {
		if q, wrong := call(p); wrong != api.ErrForm || q.Decls != nil || q.Exprs != nil || q.Stmts != nil || q.Main != nil {
			t.Errorf("%s: %s: %v, %d", what, name, q, wrong)
		}
	}
	if pulls, bfs := flip.Pulls(p), flip.Bfs(p); pulls != 0 || bfs != 0 {
		t.Errorf("%s: %d, %d", what, pulls, bfs)
	}
}

func TestP16_1ProgramsThatAreNotSound(t *testing.T) {
	for what, spoil := range proof.Spoilers() {
		p := source(t, proof.Sturdy)
		spoil(&p)
		wantForm(t, what, p)
		// That comes ahead of that it has levels.
		p = source(t, proof.Sturdy+" (each (pull ni + out 1)) (bfs ni 0)")
		spoil(&p)
		wantForm(t, what, p)
	}
	const some = "(each (pull a + out (+ (far b) 1)) (pull b max in (farid))) (bfs a 0)"
	for what, spoil := range map[string]func(*api.Program){
		"an expression that two acts share":  func(p *api.Program) { p.Stmts[0].Acts[1].E = p.Stmts[0].Acts[0].E },
		"a part that two calls share":        func(p *api.Program) { p.Exprs[2].Kids[1] = 0 },
		"an act that has another one's part": func(p *api.Program) { p.Stmts[0].Acts[1].E = 0 },
		"a pull with a condition":            func(p *api.Program) { p.Stmts[0].Acts[0].Cond = 1 },
		"a pull whose Cond is no place":      func(p *api.Program) { p.Stmts[0].Acts[0].Cond = -2 },
		"a pull without E":                   func(p *api.Program) { p.Stmts[0].Acts[0].E = -1 },
		"a pull whose E is no place":         func(p *api.Program) { p.Stmts[0].Acts[0].E = math.MaxInt },
		"a pull whose E is below all places": func(p *api.Program) { p.Stmts[0].Acts[0].E = math.MinInt },
		"a pull whose Op takes not in":       func(p *api.Program) { p.Stmts[0].Acts[0].Op = api.Sub },
		"a pull of no Op":                    func(p *api.Program) { p.Stmts[0].Acts[0].Op = api.NoOp },
		"a pull of an Op 255":                func(p *api.Program) { p.Stmts[0].Acts[0].Op = 255 },
		"an act of no Kind":                  func(p *api.Program) { p.Stmts[0].Acts[0].Kind = api.NoAct },
		"an act of a Kind 255":               func(p *api.Program) { p.Stmts[0].Acts[1].Kind = 255 },
		"a put with a way": func(p *api.Program) {
			p.Stmts[0].Acts[0].Kind, p.Stmts[0].Acts[0].Op, p.Stmts[0].Acts[0].In = api.PutIt, 0, true
		},
		"a region of no act":                      func(p *api.Program) { p.Stmts[0].Acts = nil },
		"acts of a statement that has none":       func(p *api.Program) { p.Stmts[1].Acts = p.Stmts[0].Acts },
		"a far that is deeper than there are any": func(p *api.Program) { p.Exprs[2].Kids = []int{-5, 99} },
		"a degree of other edges":                 func(p *api.Program) { p.Exprs[1] = api.Expr{Kind: api.Deg, Num: 2} },
		"levels of themselves":                    func(p *api.Program) { p.Stmts[1].Then = []int{1} },
	} {
		p := source(t, some)
		spoil(&p)
		wantForm(t, what, p)
	}
	if p := source(t, some); flip.Pulls(p) != 2 || flip.Bfs(p) != 1 {
		t.Error(flip.Pulls(p), flip.Bfs(p))
	}
}

// What is handed in stays, and what comes out shares nothing with it, nor with what came out ahead.
func TestP3ProgramsAreTheCallers(t *testing.T) {
	for _, from := range append(append(more(), proof.Running()...), proof.Sources()...) {
		p := proof.Program(source(t, from))
		whole := proof.Whole(p)
		flip.Pulls(p)
		flip.Bfs(p)
		if proof.Whole(p) != whole {
			t.Errorf("%s: it changed", from)
		}
		for name, call := range calls() {
			if what := proof.Shared(source(t, from), call); what != "" {
				t.Errorf("%s of %s: %s", name, from, what)
			}
		}
	}
}

func TestP1WhateverIsHandedIn(t *testing.T) {
	const from = "(nint a) (while (deg in) (each (pull a + out (+ (far b) (farid))) (push b max in (own a) true)) (if true ((bfs a 0)) ((set i 1))))"
	numbers := []int{-1, 0, 1, 2, 3, 5, 8, 99, math.MinInt, math.MaxInt, -1 << 40}
	sound := 0
	for i := range 20000 {
		p := source(t, from)
		n := numbers[i/8%len(numbers)]
		at := i / 88
		switch i % 8 {
		case 0:
			p.Exprs[at%len(p.Exprs)].Kind = api.ExprKind(n)
		case 1:
			p.Exprs[at%len(p.Exprs)].Kids = []int{n, at%9 - 1, 2}[:at%4]
		case 2:
			p.Stmts[at%len(p.Stmts)].Kind = api.StmtKind(n)
		case 3:
			p.Stmts[at%len(p.Stmts)].Then = append(p.Stmts[at%len(p.Stmts)].Then, n)
		case 4:
			p.Stmts[0].Acts[at%2].E = n
		case 5:
			p.Stmts[0].Acts[at%2].Cond = n
		case 6:
			p.Main = append(p.Main, n)
		case 7:
			p.Stmts[0].Acts[at%2].Kind, p.Stmts[0].Acts[at%2].Op = api.ActKind(at%6), api.Op(n)
		}
		if prog.Sound(p) {
			sound++
		}
		flip.Pulls(p)
		flip.Bfs(p)
		for name, call := range calls() {
			if q, wrong := call(p); (wrong == api.ErrForm) != !prog.Sound(p) || wrong == api.OK && !prog.Sound(q) {
				t.Errorf("%s: %v, %d", name, fmt.Sprint(p), wrong)
			}
		}
	}
	if sound < 100 || sound > 15000 {
		t.Error(sound)
	}
	for name, call := range calls() {
		if q, wrong := call(api.Program{}); wrong != api.OK || !prog.Same(q, api.Program{}) {
			t.Error(name, q, wrong)
		}
	}
	if flip.Pulls(api.Program{}) != 0 || flip.Bfs(api.Program{}) != 0 {
		t.Error("the empty program")
	}
}
