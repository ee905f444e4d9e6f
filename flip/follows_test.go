package flip_test

import (
	"testing"

	"reticule/api"
	"reticule/clash"
	"reticule/column"
	"reticule/den"
	"reticule/flip"
	"reticule/graph"
	"reticule/plain"
	"reticule/prog"
	"reticule/proof"
	"reticule/typed"
)

// more are texts of programs that fit, and do not clash, with acts along edges both ways, within all other statements.
func more() []string {
	var l []string
	for _, text := range []string{
		"(each (pull ni + out (* (far nj) (via ei))) (put nj (deg in)))",
		"(each (pull ni max in (- (farid) (far ni))) (pull nb or out (and (far nb) (via eb))) (push ni max out (deg out) (own nb)))",
		"(each (push ni min in (+ (via ei) (deg out)) (own nb))) (fold i + (deg in)) (each (pull ni min out (far nj)))",
		"(each (put ni (own nj)) (push nb or out true) (pull nb or in (via eb)))",
		"(each (put nj (id)) (push ni + in (deg in) (< 0 (deg out))) (pull nb and out (= (farid) i)))",
		"(set j 0) (while (< j 3) (set j (+ j 1)) (each (pull ni + out (+ (far ni) j)) (push nj + in (via ei))) (if (< i j) ((each (put nb (own nb)) (put nj 2))) ((each (pull nb or in (far nb))))))",
		"(loop (and b (< i 5)) (each (pull ni max out (far nj)) (put nb (< (deg in) (deg out)))) (fold b and (own nb)) (set i (+ (& i 7) 1)))",
		"(if (< i j) ((each (put ni (own nj)) (put nj (own ni)))) ((each (put ni 1) (put nj (own nj)) (put nb b)))) (fold j + (own ni) (own nb))",
	} {
		l = append(l, proof.Head+text)
	}
	return l
}

func asItIs(g *graph.Graph) *graph.Graph { return g }

// wantAlike asks that a program, and what a call makes of it, mean the same, the second one over what becomes of the graph; steps are the same, unless there may be more.
func wantAlike(t *testing.T, p, q api.Program, w plain.World, turn func(*graph.Graph) *graph.Graph, moreSteps bool) bool {
	t.Helper()
	c := w.Table()
	u, steps, wrong := den.Run(p, w.Graph(), c, api.MaxFuel)
	v, got, gotE := den.Run(q, turn(w.Graph()), c, api.MaxFuel)
	if moreSteps && gotE == api.ErrCap {
		return false
	}
	if wrong != gotE || wrong == api.OK && !u.Same(v) || steps > got || steps < got && !moreSteps {
		t.Errorf("%s, and %s, over %v: %s, %d, %d, not %s, %d, %d", text(p), text(q), w, plain.Tell(v), got, gotE, plain.Tell(u), steps, wrong)
	}
	return wrong == api.OK
}

// fits tells whether a program fits itself, and does not clash.
func fits(p api.Program) bool {
	_, misfit := typed.Check(p)
	_, conflict := clash.Check(p)
	return misfit == api.OK && conflict == api.OK
}

func TestP16_2AndP16_3AndE3TheyMeanTheSame(t *testing.T) {
	found := map[string]int{}
	for _, from := range append(more(), proof.Running()...) {
		p := source(t, from)
		pushed, pushedE := flip.Pushed(p)
		split, splitE := flip.Split(p)
		turned, turnedE := flip.Turned(p)
		if pushedE != api.OK || splitE != api.OK || turnedE != api.OK && flip.Bfs(p) == 0 {
			t.Fatal(from, pushedE, splitE, turnedE)
		}
		both, _ := flip.Split(pushed)
		for _, w := range plain.Filled(source(t, proof.Head).Decls, 3) {
			for what, is := range map[string]bool{
				"Pushed": wantAlike(t, p, pushed, w, asItIs, false), "Split": wantAlike(t, p, split, w, asItIs, true), "both": wantAlike(t, p, both, w, asItIs, true),
				"Turned": turnedE == api.OK && wantAlike(t, p, turned, w, (*graph.Graph).Turned, false),
			} {
				if is {
					found[what]++
				}
			}
		}
	}
	if found["Pushed"] < 600 || found["Split"] < 600 || found["both"] < 600 || found["Turned"] < 400 {
		t.Error("too few runs:", found)
	}
}

// Programs that come of others by changes, as far as they may be run.
func TestP16_2ToP16_5OfManyPrograms(t *testing.T) {
	worlds := plain.Filled(source(t, proof.Head).Decls, 2)
	found, ran := 0, 0
	programs(t, func(p api.Program) {
		found++
		pushed, _ := flip.Pushed(p)
		split, _ := flip.Split(p)
		turned, turnedE := flip.Turned(p)
		if again, wrong := flip.Pushed(pushed); wrong != api.OK || !prog.Same(again, pushed) || flip.Pulls(pushed) != 0 {
			t.Errorf("%s: Pushed of Pushed is %s", text(p), text(again))
		}
		if again, wrong := flip.Split(split); wrong != api.OK || !prog.Same(again, split) {
			t.Errorf("%s: Split of Split is %s", text(p), text(again))
		}
		all := []api.Program{pushed, split}
		if turnedE == api.OK {
			if again, wrong := flip.Turned(turned); wrong != api.OK || !prog.Same(again, p) {
				t.Errorf("%s: Turned of Turned is %s", text(p), text(again))
			}
			all = append(all, turned)
		}
		for _, q := range all {
			if !prog.Sound(q) || fits(p) && !fits(q) {
				t.Errorf("%s is sound, and fits, and does not clash: %s is not", text(p), text(q))
			}
		}
		w := worlds[found%len(worlds)]
		if den.Ready(p, w.Graph(), w.Table()) != api.OK {
			return
		}
		ran++
		wantAlike(t, p, pushed, w, asItIs, false)
		wantAlike(t, p, split, w, asItIs, true)
		if turnedE == api.OK {
			wantAlike(t, p, turned, w, (*graph.Graph).Turned, false)
		}
	})
	if ran < 300 {
		t.Error("too few programs:", found, ran)
	}
}

// Whether a region fits, or clashes, is of no matter to Pushed and Turned.
func TestP16_4WhatDoesNotFitOrClashes(t *testing.T) {
	for _, from := range []string{"(set zz 1)", "(nint a) (each (put a 1) (pull a + out (far a)))", "(nint a) (each (pull a + out true))", "(nint a) (each (push a + out 1) (push a max out 1))", "(int a) (int a)"} {
		p := source(t, from)
		for what, call := range map[string]func(api.Program) (api.Program, api.Errno){"Pushed": flip.Pushed, "Turned": flip.Turned} {
			q, wrong := call(p)
			_, misfit := typed.Check(p)
			_, conflict := clash.Check(p)
			_, misfitQ := typed.Check(q)
			_, conflictQ := clash.Check(q)
			if wrong != api.OK || misfit != misfitQ || conflict != conflictQ || fits(q) {
				t.Errorf("%s of %s: %s, %d", what, from, text(q), wrong)
			}
		}
	}
}

// The graph is turned, too: over the graph itself it is another program.
func TestP16_3OverTheGraphItself(t *testing.T) {
	p := source(t, "(nint a) (each (push a + out (deg out)))")
	q, _ := flip.Turned(p)
	g := graph.New(3, []api.Edge{{From: 0, To: 1}, {From: 0, To: 2}})
	c := column.New(3, 2)
	c.Declare(api.Key{Name: "a", Side: api.OfNode}, api.Int)
	for want, over := range map[string]*graph.Graph{"a[0 2 2]": g.Turned(), "a[2 0 0]": g} {
		if u, _, wrong := den.Run(q, over, c, 1); wrong != api.OK || plain.Tell(u) != want {
			t.Errorf("%s, %d, not %s", plain.Tell(u), wrong, want)
		}
	}
	if u, _, wrong := den.Run(p, g, c, 1); wrong != api.OK || plain.Tell(u) != "a[0 2 2]" {
		t.Errorf("%s, %d", plain.Tell(u), wrong)
	}
}
