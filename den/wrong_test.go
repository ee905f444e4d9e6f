package den_test

import (
	"fmt"
	"math"
	"testing"

	"reticule/api"
	"reticule/column"
	"reticule/den"
	"reticule/plain"
	"reticule/proof"
)

func TestP1WhateverIsHandedIn(t *testing.T) {
	w := plain.Of(3, "01", "12", "22").Fill(source(t, proof.Sturdy).Decls, 3)
	g, c := w.Graph(), w.Table()
	ready := map[api.Errno]int{}
	for i := range 6000 {
		p := source(t, proof.Sturdy)
		switch i % 7 { // one thing is wrong, or several
		case 0:
			p.Decls[i/7%6].Side, p.Decls[i/7%6].Kind = api.Side(i%5), api.Kind(i%4)
		case 1:
			p.Exprs[i/7%6].Kind, p.Exprs[(i+1)%6].Op = api.ExprKind(i%13), api.Op(i%23)
		case 2:
			p.Stmts[i/7%2].Kind = api.StmtKind(i % 11)
		case 3:
			p.Stmts[1].Acts[i/7%2].Kind = api.ActKind(i % 5)
		case 4:
			p.Exprs[2].Kids = []int{i%9 - 1, i % 8, i % 7}[:i%4]
		case 5:
			p.Main[i/7%2] = i%7 - 2
		}
		ready[den.Ready(p, g, c)]++
		den.Run(p, g, c, i-50)
		den.Do(p, i%9-2, g, c, i%30)
		den.Changed(p, g, c, i%30)
		den.Region(p, p.Stmts[1].Acts, g, c)
		den.Region(source(t, proof.Sturdy), []api.Act{{Kind: api.ActKind(i % 5), Name: "ni", Op: api.Op(i % 21), In: i%2 == 0, E: i%9 - 1, Cond: i/9%8 - 2}}, g, c)
	}
	if ready[api.OK] == 0 || ready[api.ErrForm] == 0 {
		t.Error(ready)
	}
}

func TestNilAndEmptyThings(t *testing.T) {
	w := world()
	g, c := w.Graph(), w.Table()
	p, l := acts(t, "(put a 1)")
	for _, fuel := range []int{math.MinInt, 0, 5, math.MaxInt} {
		if u, steps, wrong := den.Run(p, nil, c, fuel); u != nil || steps != 0 || wrong != api.ErrNil {
			t.Error(u, steps, wrong)
		}
		if u, steps, wrong := den.Do(p, 0, g, nil, fuel); u != nil || steps != 0 || wrong != api.ErrNil {
			t.Error(u, steps, wrong)
		}
		if keys, wrong := den.Changed(p, nil, nil, fuel); len(keys) != 0 || wrong != api.ErrNil {
			t.Error(keys, wrong)
		}
	}
	if u, wrong := den.Region(p, l, nil, c); u != nil || wrong != api.ErrNil {
		t.Error(u, wrong)
	}
	if u, wrong := den.Region(p, l, g, nil); u != nil || wrong != api.ErrNil {
		t.Error(u, wrong)
	}
	if u, wrong := den.Region(api.Program{}, nil, g, c); wrong != api.OK || !u.Same(c) {
		t.Error(u, wrong)
	}
	if u, wrong := den.Region(api.Program{}, l, g, c); u != nil || wrong != api.ErrRange {
		t.Error(u, wrong)
	}
}

// spoil lets all values of columns be others.
func spoil(c *column.Table) {
	for _, k := range c.Keys() {
		for i, w := range c.List(k) {
			c.Set(k, i, 1-w)
		}
	}
	c.Declare(api.Key{Name: "spoilt", Side: api.OfNode}, api.Int)
}

// What is answered, and what was handed in, hang on one another no more.
func TestP3AndP4ColumnsAreTheCallers(t *testing.T) {
	for _, text := range texts() {
		p := source(t, text)
		for _, w := range plain.Filled(p.Decls, 1) {
			g, c := w.Graph(), w.Table()
			calls := map[string]func() *column.Table{
				"Run": func() *column.Table { u, _, _ := den.Run(p, g, c, ample); return u },
				"Do":  func() *column.Table { u, _, _ := den.Do(p, len(p.Stmts)-1, g, c, ample); return u },
				"Region": func() *column.Table {
					if len(p.Stmts) == 0 {
						return nil
					}
					u, _ := den.Region(p, p.Stmts[0].Acts, g, c)
					return u
				},
			}
			for name, call := range calls {
				u := call()
				if u == nil {
					continue
				}
				was := tell(u)
				spoil(u)
				if tell(c) != tell(w.Table()) {
					t.Fatalf("%s, %s: what was handed in changed", name, text)
				}
				u = call()
				if tell(u) != was {
					t.Errorf("%s, %s: %s, not %s", name, text, tell(u), was)
				}
				spoil(c)
				if tell(u) != was {
					t.Errorf("%s, %s: what was answered changed", name, text)
				}
				c = w.Table()
			}
		}
	}
}

func TestP3ProgramsAndActsStay(t *testing.T) {
	for _, text := range texts() {
		p := proof.Program(source(t, text))
		for i, w := range plain.Filled(p.Decls, 1) {
			g, c := w.Graph(), w.Table()
			whole := proof.Whole(p)
			den.Ready(p, g, c)
			den.Run(p, g, c, ample)
			den.Run(p, g, c, i)
			for at := range p.Stmts {
				den.Do(p, at, g, c, 9)
				l := p.Stmts[at].Acts
				den.Region(p, l, g, c)
			}
			first, _ := den.Changed(p, g, c, ample)
			second, _ := den.Changed(p, g, c, ample)
			if fmt.Sprint(first) != fmt.Sprint(second) || !proof.Apart(p, first, second) {
				t.Errorf("%s: %v, %v", text, first, second)
			}
			proof.Spoil(first, api.Key{Name: "spoilt"})
			if third, _ := den.Changed(p, g, c, ample); fmt.Sprint(third) != fmt.Sprint(second) {
				t.Errorf("%s: %v, not %v", text, third, second)
			}
			if proof.Whole(p) != whole || !c.Same(w.Table()) {
				t.Errorf("%s: something changed", text)
			}
		}
	}
	p, l := acts(t, "(put a (own b)) (push b + out (own a)) (pull c or in (far c))")
	l = proof.Roomy(l, api.Act{Name: "spare"})
	was := fmt.Sprint(l[:cap(l)])
	den.Region(p, l, world().Graph(), world().Table())
	if fmt.Sprint(l[:cap(l)]) != was {
		t.Error("acts changed:", l[:cap(l)])
	}
}

// Nothing is kept: each call comes to the same, whatever was called ahead of it.
func TestP6NothingIsKept(t *testing.T) {
	p := source(t, "(int a) (nint d) (while (< a 5) (set a (+ a 1))) (bfs d 0)")
	w := zeros(plain.Of(3, "01", "12"), p)
	g, c := w.Graph(), w.Table()
	for i := range 20 {
		if _, _, wrong := den.Run(p, g, c, i%14); wrong != api.ErrCap {
			t.Error(i, wrong)
		}
		u, steps, wrong := den.Run(p, g, c, 15)
		if wrong != api.OK || steps != 15 || tell(u) != "a=5 d[0 1 2]" {
			t.Error(i, tell(u), steps, wrong)
		}
		v, steps, wrong := den.Run(p, g, u, 15)
		if wrong != api.OK || steps != 5 || tell(v) != "a=5 d[0 1 2]" {
			t.Error(i, tell(v), steps, wrong)
		}
	}
}
