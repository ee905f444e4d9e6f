package typed_test

import (
	"math"
	"testing"

	"reticule/api"
	"reticule/prog"
	"reticule/proof"
	"reticule/typed"
)

// wantUnsound asks that of a program that is not sound nothing is told but that, wherever, whatever its declarations.
func wantUnsound(t *testing.T, what string, p api.Program) {
	t.Helper()
	if prog.Sound(p) {
		t.Fatalf("%s: it is sound", what)
	}
	if at, e := typed.Check(p); at != -1 || e != api.ErrForm {
		t.Errorf("%s: Check: %d, %d", what, at, e)
	}
	for _, e := range []int{-1, 0, 1, len(p.Exprs) - 1, len(p.Exprs), math.MaxInt, math.MinInt} {
		for _, w := range []typed.Where{0, 1, 2, 3, 4, 5, 255} {
			if kind, wrong := typed.KindOf(p, e, w); kind != api.NoKind || wrong != api.ErrForm {
				t.Errorf("%s: KindOf %d, %d: %d, %d", what, e, w, kind, wrong)
			}
		}
	}
}

func TestProgramsThatAreNotSound(t *testing.T) {
	for what, spoil := range proof.Spoilers() {
		p := source(t, proof.Sturdy)
		if _, e := typed.Check(p); e != api.OK {
			t.Fatal(e)
		}
		spoil(&p)
		wantUnsound(t, what, p)
		// That comes ahead of what is declared twice, and of statements that do not fit.
		p = source(t, proof.Sturdy)
		p.Decls[1].Name, p.Decls[2] = "i", p.Decls[0]
		spoil(&p)
		wantUnsound(t, what+", of wrong declarations", p)
	}
}

func TestP1WhateverIsHandedIn(t *testing.T) {
	if at, e := typed.Check(api.Program{}); at != 0 || e != api.OK {
		t.Error("the empty program:", at, e)
	}
	if kind, e := typed.KindOf(api.Program{}, 0, typed.InScalar); kind != api.NoKind || e != api.ErrForm {
		t.Error("the empty program:", kind, e)
	}
	for i := range 4000 {
		p := source(t, head+"(set i (+ i (if b 1 2))) (each (put ni (via ei)) (pull nb or in (far nb)))")
		p.Decls[i%6].Side, p.Decls[i%6].Kind = api.Side(i%5), api.Kind(i%4)
		p.Exprs[i%7].Kind, p.Exprs[(i+1)%7].Op = api.ExprKind(i%13), api.Op(i%23)
		p.Stmts[i%2].Kind, p.Stmts[1].Acts[i%2].Kind = api.StmtKind(i%11), api.ActKind(i%5)
		p.Exprs[5].Kids = []int{i%9 - 1, i % 8, i % 7}[:i%4]
		p.Main[i%2] = i%7 - 2
		typed.Check(p)
		for e := range 9 {
			typed.KindOf(p, e-1, typed.Where(i%6))
		}
	}
}
