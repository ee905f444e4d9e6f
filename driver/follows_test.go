package driver_test

import (
	"math"
	"slices"
	"testing"

	"reticule/api"
	"reticule/bfs"
	"reticule/driver"
	"reticule/flip"
	"reticule/gen"
	"reticule/norm"
	"reticule/plain"
	"reticule/prog"
	"reticule/proof"
)

// A run that is OK is what a job means, whatever the script; and the whole outcome, how many steps it took and whether it was out of them too, is the same with all scripts whose workers may be.
func TestP25_3AndE2WhateverTheScript(t *testing.T) {
	t.Parallel()
	ends, capped := 0, 0
	for at, text := range proof.Running() {
		p := source(t, text)
		c, _, _ := driver.Build(text)
		for i, w := range plain.Filled(p.Decls, 1) {
			if (at+i)%3 != 0 {
				continue
			}
			j := jobOf(text, w)
			means := driver.Means(j, ample)
			most := []int{ample, 40, 9}[i%3]
			first := driver.Run(j, alone(), most)
			_, steps, wrong := gen.Run(c, w.Graph(), w.Zeros(c.Program.Decls).Table(), most)
			if first.Errno != wrong || first.Steps != steps {
				t.Errorf("%s over %v: %s, not %d, %d", text, w, tell(first), wrong, steps)
			}
			for _, s := range proof.Scripts() {
				wantOutcome(t, text, driver.Run(j, s, most), first)
			}
			if first.Errno == api.OK && means.Errno == api.OK {
				ends++
				first.Steps = means.Steps
				wantOutcome(t, text, first, means)
			} else {
				capped++
			}
		}
	}
	if ends < 30 || capped < 9 {
		t.Error("too few:", ends, capped)
	}
}

// What is refused is refused by the text, the graph and the loads alone: whatever the script (whose workers may be), and the steps.
func TestP25_4WhatIsRefused(t *testing.T) {
	right := mixedJob()
	jobs := map[string]driver.Job{
		"no program": {Text: "(set", Nodes: 1}, "a program that does not fit": {Text: "(set a 1)", Nodes: 1}, "one that clashes": {Text: "(nint a) (each (put a 1) (put a 2))", Nodes: 1},
		"one too great": {Text: "(nint d) (bfs d 0) (bfs d 1) (bfs d 2) (bfs d 3)", Nodes: 1}, "no node": {Text: mixed}, "no end": {Text: mixed, Nodes: 2, Edges: []api.Edge{{From: 0, To: 2}}},
		"a name that is not declared": {Text: mixed, Nodes: 1, Loads: []api.Load{load("x", api.Scalar, 1)}}, "a value that does not fit": {Text: mixed, Nodes: 1, Loads: []api.Load{load("a", api.Scalar, 2)}},
	}
	for what, j := range jobs {
		first := driver.Means(j, 0)
		if first.Errno == api.OK || first.Errno == api.ErrCap || first.Errno == api.ErrRange {
			t.Fatal(what, first)
		}
		for _, most := range []int{math.MinInt, -1, 0, 1, 7, api.MaxSteps, math.MaxInt} {
			wantOutcome(t, what, driver.Means(j, most), first)
			for _, s := range proof.Scripts() {
				wantOutcome(t, what, driver.Run(j, s, most), first)
			}
		}
	}
	// What is not refused then is with no script, and no number of steps.
	for _, most := range []int{0, 1, 3, 4, 99} {
		for _, s := range proof.Scripts() {
			o := driver.Run(right, s, most)
			if o.Errno != api.OK && o.Errno != api.ErrCap || (o.Errno == api.OK) != (most >= 4) {
				t.Error(most, s, o)
			}
		}
	}
}

// Each form of a program means the same, by itself and by workers.
func TestE3EachFormMeansTheSame(t *testing.T) {
	t.Parallel()
	forms := map[string]func(api.Program) (api.Program, api.Errno){"as it is read": func(p api.Program) (api.Program, api.Errno) { return p, api.OK }, "pushed": flip.Pushed, "split": flip.Split, "lowered": bfs.Lower, "normal": norm.Normal, "simple": norm.Simple, "turned": flip.Turned}
	many := map[string]int{}
	for at, text := range proof.Running() {
		p := source(t, text)
		w := plain.Shapes()[at%len(plain.Shapes())].Fill(p.Decls, uint64(at))
		want := driver.Means(jobOf(text, w), ample)
		if want.Errno != api.OK {
			continue
		}
		for what, form := range forms {
			q, wrong := form(p)
			if wrong == api.ErrState {
				continue // levels do not turn
			}
			formed, wrong := prog.Text(q)
			if wrong != api.OK {
				t.Fatal(text, what, wrong)
			}
			j := jobOf(formed, w)
			if what == "turned" {
				for i, e := range j.Edges {
					j.Edges[i] = api.Edge{From: e.To, To: e.From}
				}
			}
			s := proof.Scripts()[at%len(proof.Scripts())]
			for _, got := range []api.Outcome{driver.Means(j, ample), driver.Run(j, s, ample)} {
				got.Out = only(got.Out, p.Decls)
				got.Steps = want.Steps
				wantOutcome(t, what+": "+text, got, want)
				many[what]++
			}
		}
	}
	for what := range forms {
		if many[what] < 8 {
			t.Error("too few:", what, many)
		}
	}
}

// only are the columns that declarations have.
func only(l []api.Load, decls []api.Decl) []api.Load {
	return slices.DeleteFunc(slices.Clone(l), func(l api.Load) bool {
		return !slices.ContainsFunc(decls, func(d api.Decl) bool { return key(d.Name, d.Side) == l.Key })
	})
}
