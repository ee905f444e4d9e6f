package bfs_test

import (
	"slices"
	"testing"

	"reticule/api"
	"reticule/bfs"
	"reticule/clash"
	"reticule/column"
	"reticule/den"
	"reticule/flip"
	"reticule/graph"
	"reticule/plain"
	"reticule/prog"
	"reticule/proof"
	"reticule/typed"
)

// plenty are more steps than a program that ends within MaxFuel needs, when it is lowered.
const plenty = 40 * api.MaxFuel

// wantAlike asks that a program, and what Lower makes of it, come to the same in the columns that the first one declares; and tells whether both end.
func wantAlike(t *testing.T, p, q api.Program, w plain.World) bool {
	t.Helper()
	u, steps, ends := w.Run(p, p.Main, api.MaxFuel, plain.AsIs)
	fuel := plenty
	if !ends {
		fuel = api.MaxFuel // it takes as many steps at least
	}
	v, more, also := w.Run(q, q.Main, fuel, plain.AsIs)
	if ends != also || ends && more < steps {
		t.Errorf("%s, and %s, over %v: %v, %d steps, and %v, %d", text(p), text(q), w, ends, steps, also, more)
		return false
	}
	for _, d := range p.Decls {
		k := api.Key{Name: d.Name, Side: d.Side}
		if ends && !slices.Equal(u.Columns[k].Vals, v.Columns[k].Vals) {
			t.Errorf("%s, over %v: %v is %v, not %v", text(p), w, k, v.Columns[k].Vals, u.Columns[k].Vals)
		}
	}
	return ends
}

// wantDen asks the same of den, as far as there is fuel.
func wantDen(t *testing.T, p, q api.Program, w plain.World) bool {
	t.Helper()
	u, _, wrong := den.Run(p, w.Graph(), w.Table(), api.MaxFuel)
	v, _, also := den.Run(q, w.Graph(), w.Table(), api.MaxFuel)
	if also == api.ErrCap {
		return false
	}
	if wrong != api.OK || also != api.OK {
		t.Errorf("%s, and %s, over %v: %d, %d", text(p), text(q), w, wrong, also)
		return false
	}
	for _, d := range p.Decls {
		if k := (api.Key{Name: d.Name, Side: d.Side}); !slices.Equal(u.List(k), v.List(k)) {
			t.Errorf("%s, over %v: %v is %v, not %v", text(p), w, k, v.List(k), u.List(k))
		}
	}
	return true
}

// What stands in the columns that Lower has more is of no matter: worlds have all kinds of values there.
func TestP17_3AndE3LowerMeansTheSame(t *testing.T) {
	t.Parallel()
	ran, ended := 0, 0
	for _, from := range append(more(), proof.Running()...) {
		p := source(t, from)
		q, wrong := bfs.Lower(p)
		if wrong != api.OK {
			t.Fatal(from, wrong)
		}
		for _, w := range plain.Filled(q.Decls, 3) {
			if wantAlike(t, p, q, w) {
				ran++
			}
			if wantDen(t, p, q, w) {
				ended++
			}
		}
	}
	if ran < 900 || ended < 800 {
		t.Error("too few runs:", ran, ended)
	}
}

// fits tells whether a program fits itself, and does not clash.
func fits(p api.Program) bool {
	_, misfit := typed.Check(p)
	_, conflict := clash.Check(p)
	return misfit == api.OK && conflict == api.OK
}

// Programs that come of others by changes, as far as they may be run.
func TestP17_2ToP17_4OfManyPrograms(t *testing.T) {
	t.Parallel()
	found, ran, unfit := 0, 0, 0
	shapes := plain.Shapes()
	programs(t, func(p api.Program) {
		q, wrong := bfs.Lower(p)
		if wrong != api.OK {
			return
		}
		found++
		if flip.Bfs(q) != 0 {
			t.Errorf("%s: there are levels in %s", text(p), text(q))
		}
		if again, wrong := bfs.Lower(q); wrong != api.OK || !prog.Same(again, q) {
			t.Errorf("%s: Lower of Lower is %s, %d", text(p), text(again), wrong)
		}
		if !fits(p) {
			unfit++
			return
		}
		if !fits(q) {
			t.Errorf("%s fits, and does not clash: %s does not", text(p), text(q))
		}
		if wantAlike(t, p, q, shapes[found%len(shapes)].Fill(q.Decls, uint64(found))) {
			ran++
		}
	})
	if ran < 1000 || unfit < 1000 {
		t.Error("too few programs:", found, ran, unfit)
	}
}

// What does not fit, or clashes, does so when it is lowered; where the names are those that Lower takes, it need not.
func TestP17_4WhatDoesNotFitOrClashes(t *testing.T) {
	for _, from := range []string{
		"(nbool a) (bfs a 0)", "(int a) (bfs a 0)", "(nint a) (bfs a true)", "(nint a) (bfs a (id))", "(bfs a 0)", "(nint a) (bfs a i)", "(nint a) (bfs a 0 (set zz 1))",
		"(nint a) (bfs a 0 (each (put a 1) (push a + out 1)))", "(nint a) (nint a) (bfs a 0)", "(nint a) (bfs a 0) (each (put a 1) (put a 2))",
	} {
		p := source(t, from)
		if q, wrong := bfs.Lower(p); wrong != api.OK || fits(p) || fits(q) {
			t.Errorf("%s: %s, %d", from, text(q), wrong)
		}
	}
}

// The example of the whole.
func TestE3LevelsOfAPath(t *testing.T) {
	p := source(t, "(nint d) (bfs d 0)")
	q, _ := bfs.Lower(p)
	g := graph.New(3, []api.Edge{{From: 0, To: 1}, {From: 1, To: 2}})
	c := column.New(3, 2)
	for _, d := range q.Decls {
		c.Declare(api.Key{Name: d.Name, Side: d.Side}, d.Kind)
	}
	u, steps, wrong := den.Run(q, g, c, api.MaxFuel)
	// Five statements, four looks at M (levels 0, 1, 2, and no more), and six statements for each level.
	if k := (api.Key{Name: "d", Side: api.OfNode}); wrong != api.OK || !slices.Equal(u.List(k), []api.Word{0, 1, 2}) || steps != 5+4+3*6 {
		t.Error(plain.Tell(u), steps, wrong)
	}
}
