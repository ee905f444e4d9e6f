package gen_test

import (
	"testing"

	"reticule/api"
	"reticule/den"
	"reticule/gen"
	"reticule/norm"
	"reticule/plain"
	"reticule/proof"
)

// wantMeans asks that code of a program comes to what the program does, where neither is out of steps; and tells whether that is so.
func wantMeans(t *testing.T, p api.Program, c api.Code, w plain.World) bool {
	t.Helper()
	u, steps, e := den.Run(p, w.Graph(), w.Table(), api.MaxFuel)
	v, then, also := gen.Run(c, w.Graph(), w.Table(), api.MaxSteps)
	if e == api.ErrCap || also == api.ErrCap {
		return false
	}
	if e != api.OK || also != api.OK || !u.Same(v) || then <= steps {
		t.Errorf("%s, %s, over %v: %d steps, %d; then %d, %d", text(p), printed(c), w, steps, e, then, also)
	}
	return true
}

// wantAlike asks that what comes of code by Merged, by Pruned, and by both comes to the same, in no more steps; and tells whether it ends.
func wantAlike(t *testing.T, c api.Code, w plain.World, most int) bool {
	t.Helper()
	merged := wantMade(t, "Merged", gen.Merged, c, plainMerged(c.List))
	pruned := wantMade(t, "Pruned", gen.Pruned, c, plainPruned(c.List))
	both := wantMade(t, "both", gen.Pruned, merged, plainPruned(merged.List))
	wantMade(t, "Merged again", gen.Merged, merged, merged.List)
	wantMade(t, "Pruned again", gen.Pruned, pruned, pruned.List)
	u, steps, e := gen.Run(c, w.Graph(), w.Table(), most)
	if e == api.ErrCap {
		return false
	}
	for what, d := range map[string]api.Code{"Merged": merged, "Pruned": pruned, "both": both} {
		v, then, also := gen.Run(d, w.Graph(), w.Table(), most)
		if e != api.OK || also != api.OK || !u.Same(v) || then > steps || what == "Pruned" && then < steps {
			t.Errorf("%s, %s, and %s, %s: %d steps, %d; then %d, %d", text(c.Program), printed(c), what, printed(d), steps, e, then, also)
		}
	}
	return true
}

// P20.4, P20.5 and E3 of programs that run on, over all shapes of graphs.
func TestP20_4AndP20_5AndE3OfPrograms(t *testing.T) {
	t.Parallel()
	found, ran := 0, 0
	for _, from := range append(proof.Running(), nested()...) {
		p, e := norm.Normal(source(t, from))
		if e != api.OK {
			t.Fatal(from, e)
		}
		c, e := gen.Compile(p)
		if e != api.OK {
			t.Fatal(from, e)
		}
		for _, w := range plain.Filled(p.Decls, 2) {
			if wantMeans(t, p, c, w) {
				found++
			}
			wantRun(t, c, w, api.MaxSteps)
			if wantAlike(t, c, w, api.MaxSteps) {
				ran++
			}
		}
	}
	if found < 400 || ran < 400 {
		t.Error("too few runs:", found, ran)
	}
}

// nested are texts of programs with branches and loops within one another.
func nested() []string {
	var l []string
	for _, text := range []string{
		"(while (< i 3) (set i (+ (max i 0) 1)) (if b ((if (< j i) ((set b false)) ())) ((while (< j 2) (set j (+ (max j 0) 1))) (if b () ((set b true))))))",
		"(if b ((if (< i j) ((set i 1)) ((set i 2)))) ((if (< j i) () ((fold i max (own ni))))))",
		"(while b (if b ((if b ((set b false)) ())) ())) (while (not b) (while b) (set b true))",
		"(while (< (& i 7) 5) (set i (+ (& i 7) 1)) (while (and b (< j 3)) (set j (+ (max j 0) 1)) (each (push ni max out (+ (own nj) i)) (push nb or in (via eb) (own nb)))) (fold b or (own nb)))",
		"(if true () ()) (while false) (if false ((while true)) ((while false (while true))))",
		"(loop b (bfs ni (& i 3) (if b ((set i (+ i 1))) ())) (set b false))",
	} {
		l = append(l, proof.Head+text)
	}
	return l
}

// The same of programs that come of others by changes.
func TestP20_4AndP20_5AndE3OfManyPrograms(t *testing.T) {
	t.Parallel()
	found, ran, many := 0, 0, 0
	shapes := plain.Shapes()
	programs(t, func(p api.Program) {
		c, e := gen.Compile(p)
		if e != api.OK {
			return
		}
		many++
		w := shapes[many%len(shapes)].Fill(p.Decls, uint64(many))
		if wantMeans(t, p, c, w) {
			found++
		}
		wantRun(t, c, w, 300)
		if wantAlike(t, c, w, 300) {
			ran++
		}
	})
	if found < 600 || ran < 600 {
		t.Error("too few runs:", many, found, ran)
	}
}

// The same of all code of a few instructions.
func TestP20_2AndP20_5AndP20_6OfAllShortCode(t *testing.T) {
	t.Parallel()
	found, ends := 0, 0
	w := chain()
	lists(t, 4, func(c api.Code) {
		found++
		wantRun(t, c, w, 30)
		if wantAlike(t, c, w, 30) {
			ends++
		}
	})
	if found < 4000 || ends < 2000 {
		t.Error("too little code:", found, ends)
	}
}

// Merged may take fewer steps.
func TestP20_5FewerSteps(t *testing.T) {
	c := code(t, several, "jump 1; jump 2; jump 3; set 0; stop")
	m, _ := gen.Merged(c)
	wantTable(t, c, chain(), "b=1 i=6 a[1 2 4]", 5)
	wantTable(t, m, chain(), "b=1 i=6 a[1 2 4]", 3)
}
