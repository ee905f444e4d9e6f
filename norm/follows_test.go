package norm_test

import (
	"slices"
	"testing"

	"reticule/api"
	"reticule/clash"
	"reticule/den"
	"reticule/flip"
	"reticule/norm"
	"reticule/plain"
	"reticule/prog"
	"reticule/proof"
	"reticule/typed"
)

// plenty are more steps than a program that ends within MaxFuel needs in its normal form.
const plenty = 40 * api.MaxFuel

// wantAlike asks that a program, and what becomes of it, come to the same in the columns that the first one declares, in steps of which right says whether they may be so many; and tells whether the first one ends.
func wantAlike(t *testing.T, p, q api.Program, w plain.World, right func(steps, then int) bool) bool {
	t.Helper()
	u, steps, ends := w.Run(p, p.Main, api.MaxFuel, plain.AsIs)
	if !ends {
		return false
	}
	v, then, also := w.Run(q, q.Main, plenty, plain.AsIs)
	if !also || !right(steps, then) {
		t.Errorf("%s, and %s, over %v: %d steps, then %d", text(p), text(q), w, steps, then)
		return true
	}
	for _, d := range p.Decls {
		if k := (api.Key{Name: d.Name, Side: d.Side}); !slices.Equal(u.Columns[k].Vals, v.Columns[k].Vals) {
			t.Errorf("%s, and %s, over %v: %v is %v, not %v", text(p), text(q), w, k, v.Columns[k].Vals, u.Columns[k].Vals)
		}
	}
	return true
}

// wantDen asks the same of den, as far as there is fuel, and tells whether there was.
func wantDen(t *testing.T, p, q api.Program, w plain.World) bool {
	t.Helper()
	u, _, wrong := den.Run(p, w.Graph(), w.Table(), api.MaxFuel)
	v, _, also := den.Run(q, w.Graph(), w.Table(), api.MaxFuel)
	if wrong == api.ErrCap || also == api.ErrCap {
		return false
	}
	if wrong != api.OK || also != api.OK {
		t.Errorf("%s, and %s, over %v: %d, %d", text(p), text(q), w, wrong, also)
		return false
	}
	for _, d := range p.Decls {
		if k := (api.Key{Name: d.Name, Side: d.Side}); !slices.Equal(u.List(k), v.List(k)) {
			t.Errorf("%s, and %s, over %v: %v is %v, not %v", text(p), text(q), w, k, v.List(k), u.List(k))
		}
	}
	return true
}

// normalSteps tells whether Normal may take so many steps: as many, but for levels.
func normalSteps(p api.Program) func(steps, then int) bool {
	return func(steps, then int) bool { return steps == then || steps < then && flip.Bfs(p) > 0 }
}

func noMore(steps, then int) bool { return then <= steps }

func TestP18_3AndP18_5AndE3TheyMeanTheSame(t *testing.T) {
	t.Parallel()
	found := map[string]int{}
	for _, from := range append(more(), proof.Running()...) {
		p := source(t, from)
		normal, wrong := norm.Normal(p)
		simple, also := norm.Simple(p)
		both, last := norm.Simple(normal)
		if wrong != api.OK || also != api.OK || last != api.OK {
			t.Fatal(from, wrong, also, last)
		}
		for _, w := range plain.Filled(normal.Decls, 3) {
			for what, is := range map[string]bool{
				"Normal": wantAlike(t, p, normal, w, normalSteps(p)), "Simple": wantAlike(t, p, simple, w, noMore), "both": wantAlike(t, p, both, w, func(int, int) bool { return true }),
				"Normal of den": wantDen(t, p, normal, w), "Simple of den": wantDen(t, p, simple, w),
			} {
				if is {
					found[what]++
				}
			}
		}
	}
	if found["Normal"] < 800 || found["Simple"] < 800 || found["both"] < 800 || found["Normal of den"] < 700 || found["Simple of den"] < 800 {
		t.Error("too few runs:", found)
	}
}

// fits tells whether a program fits itself, and does not clash.
func fits(p api.Program) bool {
	_, misfit := typed.Check(p)
	_, conflict := clash.Check(p)
	return misfit == api.OK && conflict == api.OK
}

// Programs that come of others by changes, as far as they may be run.
func TestP18_2ToP18_4OfManyPrograms(t *testing.T) {
	t.Parallel()
	found, ran, same := 0, 0, 0
	shapes := plain.Shapes()
	programs(t, func(p api.Program) {
		q, wrong := norm.Normal(p)
		if wrong != api.OK {
			return
		}
		found++
		if !norm.Is(q) || flip.Pulls(q) != 0 || flip.Bfs(q) != 0 || norm.Loops(q) != 0 {
			t.Errorf("%s: %s is not in the normal form", text(p), text(q))
		}
		if again, wrong := norm.Normal(q); wrong != api.OK || !prog.Same(again, q) {
			t.Errorf("%s: Normal of Normal is %s, %d", text(p), text(again), wrong)
		}
		if norm.Is(p) {
			same++
			if !prog.Same(p, q) {
				t.Errorf("%s is in the normal form, and %s is not the same", text(p), text(q))
			}
		}
		if fits(p) && !fits(q) {
			t.Errorf("%s fits, and does not clash: %s does not", text(p), text(q))
		}
		if fits(p) && wantAlike(t, p, q, shapes[found%len(shapes)].Fill(q.Decls, uint64(found)), normalSteps(p)) {
			ran++
		}
	})
	if ran < 800 || same < 500 {
		t.Error("too few programs:", found, ran, same)
	}
}

func TestP18_5AndE3SimpleOfManyPrograms(t *testing.T) {
	t.Parallel()
	found, ran := 0, 0
	shapes := plain.Shapes()
	programs(t, func(p api.Program) {
		q, wrong := norm.Simple(p)
		if wrong != api.OK {
			return
		}
		found++
		if again, wrong := norm.Simple(q); wrong != api.OK || !prog.Same(again, q) {
			t.Errorf("%s: Simple of Simple is %s, %d", text(p), text(again), wrong)
		}
		if norm.Size(q) > norm.Size(p) || norm.Is(p) && !norm.Is(q) {
			t.Errorf("%s: %s is larger, or not in the normal form any more", text(p), text(q))
		}
		if !fits(p) {
			return
		}
		if !fits(q) {
			t.Errorf("%s fits, and does not clash: %s does not", text(p), text(q))
		}
		if wantAlike(t, p, q, shapes[found%len(shapes)].Fill(p.Decls, uint64(found)), noMore) {
			ran++
		}
	})
	if ran < 800 {
		t.Error("too few programs:", found, ran)
	}
}

// What does not fit, or clashes, does so in the normal form.
func TestP18_4WhatDoesNotFitOrClashes(t *testing.T) {
	for _, from := range []string{
		"(set zz 1)", "(loop 1)", "(int a) (loop true (set a true))", "(nint a) (each (pull a + out true))", "(nint a) (bfs a true)", "(int a) (int a)",
		"(nint a) (each (put a 1) (pull a + out (far a)))", "(nint a) (loop false (each (pull a + in 1) (pull a max in 1)))", "(nint a) (bfs a 0 (each (put a 1) (put a 2)))",
	} {
		p := source(t, from)
		if q, wrong := norm.Normal(p); wrong != api.OK || fits(p) || fits(q) || !norm.Is(q) {
			t.Errorf("%s: %s, %d", from, text(q), wrong)
		}
	}
}
