package typed_test

import (
	"math"
	"testing"

	"reticule/api"
	"reticule/prog"
	"reticule/typed"
)

// wantUnsound asks that of a program that is not sound nothing is told but that, wherever, whatever its declarations.
func wantUnsound(t *testing.T, what string, p api.Program) {
	t.Helper()
	if prog.Sound(p) {
		t.Fatalf("%s: it is sound", what)
	}
	if at, e := typed.Check(p); at != -1 || e != api.ErrForm {
		t.Errorf("%s: Check: %d, %d", what, at, e)
	}
	for _, e := range []int{-1, 0, 1, len(p.Exprs) - 1, len(p.Exprs), math.MaxInt, math.MinInt} {
		for _, w := range []typed.Where{0, 1, 2, 3, 4, 5, 255} {
			if kind, wrong := typed.KindOf(p, e, w); kind != api.NoKind || wrong != api.ErrForm {
				t.Errorf("%s: KindOf %d, %d: %d, %d", what, e, w, kind, wrong)
			}
		}
	}
}

func TestProgramsThatAreNotSound(t *testing.T) {
	const text = head + "(set i (+ 1 i)) (each (put ni (own ni)) (push nb or out b)) (while b (set i 1))"
	for what, spoil := range map[string]func(*api.Program){
		"a statement twice in Main":         func(p *api.Program) { p.Main = append(p.Main, 0) },
		"no Main":                           func(p *api.Program) { p.Main = nil },
		"a place of Main below 0":           func(p *api.Program) { p.Main[0] = -1 },
		"a place of Main behind the end":    func(p *api.Program) { p.Main[0] = math.MaxInt },
		"a declaration of no Kind":          func(p *api.Program) { p.Decls[0].Kind = api.NoKind },
		"a declaration of a Kind 3":         func(p *api.Program) { p.Decls[0].Kind = 3 },
		"a declaration of no Side":          func(p *api.Program) { p.Decls[0].Side = api.NoSide },
		"a declaration of a Side 4":         func(p *api.Program) { p.Decls[0].Side = 4 },
		"a declaration without a Name":      func(p *api.Program) { p.Decls[0].Name = "" },
		"a declaration of a wrong Name":     func(p *api.Program) { p.Decls[0].Name = "A" },
		"too many declarations":             func(p *api.Program) { p.Decls = append(p.Decls, make([]api.Decl, 30)...) },
		"a literal of no Kind":              func(p *api.Program) { p.Exprs[0].Of = api.NoKind },
		"a literal of a Kind 3":             func(p *api.Program) { p.Exprs[0].Of = 3 },
		"a truth that is 2":                 func(p *api.Program) { p.Exprs[0].Of, p.Exprs[0].Num = api.Bool, 2 },
		"an expression of no Kind":          func(p *api.Program) { p.Exprs[0].Kind = api.NoExpr },
		"an expression of a Kind 11":        func(p *api.Program) { p.Exprs[0].Kind = 11 },
		"an expression of a Kind 255":       func(p *api.Program) { p.Exprs[0].Kind = 255 },
		"a call of no Op":                   func(p *api.Program) { p.Exprs[2].Op = api.NoOp },
		"a call of an Op 20":                func(p *api.Program) { p.Exprs[2].Op = api.LastOp + 1 },
		"a call of an Op 255":               func(p *api.Program) { p.Exprs[2].Op = 255 },
		"a call of too many":                func(p *api.Program) { p.Exprs[2].Op = api.Not },
		"a call of too few":                 func(p *api.Program) { p.Exprs[2].Op = api.If },
		"a call without kids":               func(p *api.Program) { p.Exprs[2].Kids = nil },
		"a call of itself":                  func(p *api.Program) { p.Exprs[2].Kids = []int{2, 2} },
		"a call of places that are none":    func(p *api.Program) { p.Exprs[2].Kids = []int{-1, math.MaxInt} },
		"an expression that nothing has":    func(p *api.Program) { p.Exprs = append(p.Exprs, api.Expr{Kind: api.Count}) },
		"no expressions":                    func(p *api.Program) { p.Exprs = nil },
		"no statements":                     func(p *api.Program) { p.Stmts = nil },
		"a statement of no Kind":            func(p *api.Program) { p.Stmts[0].Kind = api.NoStmt },
		"a statement of a Kind 8":           func(p *api.Program) { p.Stmts[0].Kind = 8 },
		"a statement without E":             func(p *api.Program) { p.Stmts[0].E = -1 },
		"a statement of an E that is none":  func(p *api.Program) { p.Stmts[0].E = math.MinInt },
		"a statement with a wrong Cond":     func(p *api.Program) { p.Stmts[0].Cond = 0 },
		"a statement in itself":             func(p *api.Program) { p.Stmts[3].Then = []int{3} },
		"a region without acts":             func(p *api.Program) { p.Stmts[1].Acts = nil },
		"a region of too many acts":         func(p *api.Program) { p.Stmts[1].Acts = make([]api.Act, 7) },
		"an act of no Kind":                 func(p *api.Program) { p.Stmts[1].Acts[0].Kind = api.NoAct },
		"an act of a Kind 4":                func(p *api.Program) { p.Stmts[1].Acts[0].Kind = 4 },
		"an act that puts by an Op":         func(p *api.Program) { p.Stmts[1].Acts[0].Op = api.Add },
		"an act of an Op that takes not in": func(p *api.Program) { p.Stmts[1].Acts[1].Op = api.Sub },
		"an act without E":                  func(p *api.Program) { p.Stmts[1].Acts[1].E = -1 },
		"an act whose Cond is none":         func(p *api.Program) { p.Stmts[1].Acts[1].Cond = 99 },
	} {
		p := source(t, text)
		if _, e := typed.Check(p); e != api.OK {
			t.Fatal(e)
		}
		spoil(&p)
		wantUnsound(t, what, p)
		// That comes ahead of what is declared twice, and of statements that do not fit.
		p = source(t, text)
		p.Decls[1].Name, p.Decls[2] = "i", p.Decls[0]
		spoil(&p)
		wantUnsound(t, what+", of wrong declarations", p)
	}
}

func TestP1WhateverIsHandedIn(t *testing.T) {
	if at, e := typed.Check(api.Program{}); at != 0 || e != api.OK {
		t.Error("the empty program:", at, e)
	}
	if kind, e := typed.KindOf(api.Program{}, 0, typed.InScalar); kind != api.NoKind || e != api.ErrForm {
		t.Error("the empty program:", kind, e)
	}
	for i := range 4000 {
		p := source(t, head+"(set i (+ i (if b 1 2))) (each (put ni (via ei)) (pull nb or in (far nb)))")
		p.Decls[i%6].Side, p.Decls[i%6].Kind = api.Side(i%5), api.Kind(i%4)
		p.Exprs[i%7].Kind, p.Exprs[(i+1)%7].Op = api.ExprKind(i%13), api.Op(i%23)
		p.Stmts[i%2].Kind, p.Stmts[1].Acts[i%2].Kind = api.StmtKind(i%11), api.ActKind(i%5)
		p.Exprs[5].Kids = []int{i%9 - 1, i % 8, i % 7}[:i%4]
		p.Main[i%2] = i%7 - 2
		typed.Check(p)
		for e := range 9 {
			typed.KindOf(p, e-1, typed.Where(i%6))
		}
	}
}
