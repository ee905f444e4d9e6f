package driver_test

import (
	"fmt"
	"math"
	"slices"
	"testing"

	"reticule/api"
	"reticule/driver"
	"reticule/plain"
	"reticule/proof"
)

// The examples of the document's beginning, and of the chapter.
func TestExamplesOfTheWhole(t *testing.T) {
	path := []api.Edge{{From: 0, To: 1}, {From: 1, To: 2}}
	for _, s := range proof.Scripts() {
		o := driver.Run(driver.Job{Text: "(nint d) (bfs d 0)", Nodes: 3, Edges: path}, s, 200)
		if o.Errno != api.OK || o.At != 0 || fmt.Sprint(o.Out) != "[{{d 2} [0 1 2]}]" {
			t.Error(s, o)
		}
		o = driver.Run(driver.Job{Text: "(nint a) (each (push a + out 1))", Nodes: 4, Edges: append(slices.Clone(path), api.Edge{From: 0, To: 2}, api.Edge{From: 2, To: 2})}, s, 200)
		wantOutcome(t, "how many come", o, api.Outcome{Steps: 3, Out: []api.Load{load("a", api.OfNode, 0, 1, 3, 0)}})
		o = driver.Run(driver.Job{Text: "(nint a) (each (put a 1) (push a + out 1))", Nodes: 3, Edges: path}, s, 200)
		wantOutcome(t, "it clashes", o, api.Outcome{Errno: api.ErrConflict})
	}
}

// mixed is a text with columns of all sides, which are not declared in the order of their keys.
const mixed = "(eint w) (nbool m) (int z) (nint b) (bool a) (nint a) (ebool f) (int b) (set b (+ z 2)) (each (put m true (< (own b) z)) (push a + out (* (via w) (own b)) (own m)))"

func mixedJob() driver.Job {
	return driver.Job{Text: mixed, Nodes: 3, Edges: []api.Edge{{From: 0, To: 1}, {From: 2, To: 1}}, Loads: []api.Load{
		load("w", api.OfEdge, 5, -7), load("m", api.OfNode, 1, 0, 1), load("z", api.Scalar, 3), load("b", api.OfNode, 2, 3, 4),
	}}
}

func TestP25_2OutAndSteps(t *testing.T) {
	out := []api.Load{
		load("a", api.Scalar, 0), load("b", api.Scalar, 5), load("z", api.Scalar, 3),
		load("a", api.OfNode, 0, 5*2-7*4, 0), load("b", api.OfNode, 2, 3, 4), load("m", api.OfNode, 1, 0, 1),
		load("f", api.OfEdge, 0, 0), load("w", api.OfEdge, 5, -7),
	}
	for _, s := range proof.Scripts() {
		wantOutcome(t, "a run", driver.Run(mixedJob(), s, ample), api.Outcome{Steps: 4, Out: out})
	}
	wantOutcome(t, "what it means", driver.Means(mixedJob(), ample), api.Outcome{Steps: 2, Out: out})
	// Of nothing nothing comes out; of columns without places, and without a load, they do.
	for text, want := range map[string][]api.Load{
		"": nil, " ; nothing": nil,
		"(eint e) (ebool f)": {load("e", api.OfEdge), load("f", api.OfEdge)},
		"(nint e) (int e)":   {load("e", api.Scalar, 0), load("e", api.OfNode, 0, 0)},
	} {
		wantOutcome(t, text, driver.Run(driver.Job{Text: text, Nodes: 2}, alone(), 1), api.Outcome{Steps: 1, Out: want})
		wantOutcome(t, text, driver.Means(driver.Job{Text: text, Nodes: 2}, 0), api.Outcome{Out: want})
	}
}

// What the normal form declares beside does not come out, and may have a name that is declared on another side.
func TestP25_2OnlyWhatTheTextDeclares(t *testing.T) {
	for _, text := range []string{"(nint d) (bfs d 1)", "(nint d) (nint q1) (bfs d 1)", "(nint d) (eint q0) (int q3) (bfs d 1)"} {
		j := driver.Job{Text: text, Nodes: 2, Edges: []api.Edge{{From: 1, To: 0}}}
		run, means := driver.Run(j, alone(), ample), driver.Means(j, ample)
		if run.Errno != api.OK || means.Errno != api.OK || len(run.Out) != len(source(t, text).Decls) {
			t.Errorf("%s: %v, %v", text, run, means)
		}
		run.Steps, means.Steps = 0, 0
		wantOutcome(t, text, run, means)
	}
}

// Loads are taken in in their order: of one key the last one counts.
func TestP25_2LoadsInOrder(t *testing.T) {
	j := driver.Job{Text: "(int a) (nbool a)", Nodes: 2, Loads: []api.Load{load("a", api.Scalar, 1), load("a", api.OfNode, 1, 0), load("a", api.Scalar, -9), load("a", api.OfNode, 0, 1)}}
	for n, want := range [][]api.Word{{0, 0, 0}, {1, 0, 0}, {1, 1, 0}, {-9, 1, 0}, {-9, 0, 1}} {
		one := j
		one.Loads = j.Loads[:n]
		out := []api.Load{load("a", api.Scalar, want[0]), load("a", api.OfNode, want[1:]...)}
		wantOutcome(t, "a run", driver.Run(one, alone(), 5), api.Outcome{Steps: 1, Out: out})
		wantOutcome(t, "what it means", driver.Means(one, 5), api.Outcome{Out: out})
	}
	j = driver.Job{Text: "(eint e)", Nodes: 1, Loads: []api.Load{load("e", api.OfEdge)}}
	wantOutcome(t, "no values of no edges", driver.Run(j, alone(), 5), api.Outcome{Steps: 1, Out: j.Loads})
}

// wantGraph asks that a job is refused with ErrGraph, at a place, by a run and by what it means.
func wantGraph(t *testing.T, what string, j driver.Job, at int) {
	t.Helper()
	wantOutcome(t, what, driver.Run(j, alone(), ample), api.Outcome{Errno: api.ErrGraph, At: at})
	wantOutcome(t, what, driver.Means(j, ample), api.Outcome{Errno: api.ErrGraph, At: at})
}

func TestP25_2AndE4GraphsThatMayNotBe(t *testing.T) {
	for _, n := range []int{math.MinInt, -1, 0, api.MaxNodes + 1, 1 << 32, math.MaxInt} {
		wantGraph(t, fmt.Sprint(n), driver.Job{Nodes: n}, -1)
	}
	wantGraph(t, "no graph", driver.Job{}, -1)
	many := make([]api.Edge, api.MaxEdges+1)
	wantGraph(t, "edges", driver.Job{Nodes: 1, Edges: many}, -1)
	wantGraph(t, "edges, of which one is wrong", driver.Job{Nodes: 1, Edges: append(many, api.Edge{From: 5})}, -1)
	wantOutcome(t, "as many as may be", driver.Run(driver.Job{Nodes: api.MaxNodes, Edges: many[1:]}, alone(), 1), api.Outcome{Steps: 1})
	for at := range 4 {
		for _, wrong := range []api.Edge{{From: 3}, {To: 3}, {From: -1}, {To: -1}, {From: math.MaxInt, To: math.MinInt}} {
			edges := make([]api.Edge, 4)
			edges[at], edges[3] = wrong, wrong
			wantGraph(t, fmt.Sprint(edges), driver.Job{Nodes: 3, Edges: edges}, at)
		}
	}
}

func TestP25_2LoadsThatMayNotBe(t *testing.T) {
	const text = "(int i) (bool b) (nint n) (nbool m) (eint e) (nint d) (bfs d 0)"
	right := []api.Load{load("i", api.Scalar, 7), load("b", api.Scalar, 1), load("n", api.OfNode, 5, 6), load("m", api.OfNode, 0, 1), load("e", api.OfEdge, 9), load("d", api.OfNode, 1, 1)}
	j := driver.Job{Text: text, Nodes: 2, Edges: []api.Edge{{From: 0, To: 1}}, Loads: right}
	if o := driver.Run(j, alone(), ample); o.Errno != api.OK {
		t.Fatal(o)
	}
	for _, wrong := range []api.Load{
		{}, load("", api.Scalar, 1), load("j", api.Scalar, 1), load("A", api.Scalar, 1), load("i ", api.Scalar, 1), load("\xff", api.Scalar, 1), load("toolonganame", api.Scalar, 1),
		load("i", api.OfNode, 1, 1), load("i", api.OfEdge, 1), load("i", api.NoSide, 1), load("i", 4, 1), load("i", 255, 1), load("n", api.Scalar, 1), load("e", api.OfNode, 1, 1),
		// What the normal form declares beside, the text's program does not.
		load("q0", api.Scalar, 0), load("q1", api.Scalar, 0), load("q2", api.Scalar, 0), load("q3", api.OfNode, 0, 0),
		load("i", api.Scalar), load("i", api.Scalar, 1, 2), load("n", api.OfNode), load("n", api.OfNode, 1), load("n", api.OfNode, 1, 2, 3), load("e", api.OfEdge), load("e", api.OfEdge, 1, 2),
		load("b", api.Scalar, 2), load("b", api.Scalar, -1), load("m", api.OfNode, 0, 2), load("m", api.OfNode, math.MinInt64, 0),
	} {
		for at := range len(right) + 1 {
			one := j
			one.Loads = append(slices.Insert(slices.Clone(right), at, wrong), api.Load{})
			wantGraph(t, fmt.Sprint(wrong), one, at)
		}
	}
}

func TestP25_2WorkersThatMayNotBe(t *testing.T) {
	j := mixedJob()
	for _, workers := range []int{math.MinInt, -1, 0, api.MaxWorkers + 1, 1<<32 + 1, math.MaxInt} {
		for _, most := range []int{-1, 0, 4, ample} {
			wantOutcome(t, fmt.Sprint(workers), driver.Run(j, api.Script{Workers: workers, By: []int{1}, Seeds: []uint64{1}}, most), api.Outcome{Errno: api.ErrRange})
		}
	}
	for workers := 1; workers <= api.MaxWorkers; workers++ {
		if o := driver.Run(j, api.Script{Workers: workers}, ample); o.Errno != api.OK {
			t.Error(workers, o)
		}
	}
}

// Of several errors the one that is named first: of the text, the graph, the loads, the workers, the steps.
func TestP25_2AndP2TheFirstErrorIsTold(t *testing.T) {
	for n := range 32 {
		j, s, most := mixedJob(), alone(), ample
		want := api.Outcome{Steps: 4, Out: driver.Run(mixedJob(), alone(), ample).Out}
		if n&1 != 0 {
			most, want = 3, api.Outcome{Errno: api.ErrCap}
		}
		if n&2 != 0 {
			s.Workers, want = 0, api.Outcome{Errno: api.ErrRange}
		}
		if n&4 != 0 {
			j.Loads[2].Key.Name, want = "zz", api.Outcome{Errno: api.ErrGraph, At: 2}
		}
		if n&8 != 0 {
			j.Edges[1].To, want = 3, api.Outcome{Errno: api.ErrGraph, At: 1}
		}
		if n&16 != 0 {
			j.Text, want = "(int a) (set a 1) (set z 1)", api.Outcome{Errno: api.ErrType, At: 1}
		}
		wantOutcome(t, fmt.Sprint(n), driver.Run(j, s, most), want)
	}
}

// Build's errors, and their places, are those of a run, and of what a job means.
func TestP25_2ErrorsOfBuild(t *testing.T) {
	many := map[api.Errno]int{}
	look := func(text string) {
		_, at, wrong := driver.Build(text)
		many[wrong]++
		if wrong == api.OK {
			return
		}
		for _, j := range []driver.Job{{Text: text, Nodes: 1}, {Text: text, Nodes: 99, Loads: []api.Load{{}}}} {
			wantOutcome(t, text, driver.Run(j, alone(), ample), api.Outcome{Errno: wrong, At: at})
			wantOutcome(t, text, driver.Run(j, api.Script{}, 0), api.Outcome{Errno: wrong, At: at})
			wantOutcome(t, text, driver.Means(j, ample), api.Outcome{Errno: wrong, At: at})
		}
	}
	look("(nint d) (bfs d 0) (bfs d 1) (bfs d 2) (bfs d 3) (bfs d 4)")
	for _, text := range append(proof.Sources(), "(int a) (nint b) (each (put b 1) (push c + out 1)) (bfs b a)", "(nint a) (nint b) (each (push a max out 1) (push b + out 1))") {
		proof.Changed(text, []string{"a", "b", "true"}, look)
	}
	if many[api.ErrSyntax] < 100 || many[api.ErrType] < 50 || many[api.ErrConflict] < 1 || many[api.ErrSpace] < 1 {
		t.Error("too few:", many)
	}
}

// Steps: as many as it takes are enough, one fewer is not; what is above the limits counts as these.
func TestP25_2AndE4Steps(t *testing.T) {
	for _, c := range []struct {
		text       string
		run, means int
	}{
		{"", 1, 0}, {"(int a) (set a 3)", 2, 1}, {"(int a) (fold a + 2)", 2, 1}, {"(nint a) (each (put a 1))", 3, 1}, {"(int a) (if true ((set a 1)) ())", 4, 2}, {"(int a) (if false () ((set a 1)))", 3, 2},
		{"(int a) (while (< a 3) (set a (+ a 1)))", 11, 7}, {"(int a) (loop (< a 3) (set a (+ a 1)))", 9, 6}, {"(nint d) (bfs d 9)", 8, 1}, {"(nint d) (bfs d 1)", 8 + 11, 2},
	} {
		j := driver.Job{Text: c.text, Nodes: 2}
		for most := -2; most < c.run+4; most++ {
			o := driver.Run(j, alone(), most)
			if most < c.run {
				wantOutcome(t, fmt.Sprint(c.text, most), o, api.Outcome{Errno: api.ErrCap})
			} else if o.Errno != api.OK || o.Steps != c.run {
				t.Errorf("%s, %d: %s", c.text, most, tell(o))
			}
		}
		for fuel := -2; fuel < c.means+4; fuel++ {
			o := driver.Means(j, fuel)
			if max(fuel, 0) < c.means {
				wantOutcome(t, fmt.Sprint(c.text, fuel), o, api.Outcome{Errno: api.ErrCap})
			} else if o.Errno != api.OK || o.Steps != c.means {
				t.Errorf("%s, %d: %s", c.text, fuel, tell(o))
			}
		}
	}
	counting := func(to api.Word) driver.Job {
		return driver.Job{Text: "(int a) (int n) (while (< a n) (set a (+ a 1)))", Nodes: 1, Loads: []api.Load{load("n", api.Scalar, to)}}
	}
	for _, most := range []int{api.MaxSteps, api.MaxSteps + 1, math.MaxInt} {
		out := func(n api.Word) []api.Load { return []api.Load{load("a", api.Scalar, n), load("n", api.Scalar, n)} }
		wantOutcome(t, "a run", driver.Run(counting(399), alone(), most), api.Outcome{Steps: 1199, Out: out(399)})
		wantOutcome(t, "a run", driver.Run(counting(400), alone(), most), api.Outcome{Errno: api.ErrCap})
		wantOutcome(t, "what it means", driver.Means(counting(199), most), api.Outcome{Steps: 399, Out: out(199)})
		wantOutcome(t, "what it means", driver.Means(counting(200), most), api.Outcome{Errno: api.ErrCap})
	}
}

// Means is what is reckoned plainly.
func TestP25_2MeansByThePlainReckoning(t *testing.T) {
	t.Parallel()
	ends, capped := 0, 0
	for at, text := range proof.Running() {
		p := source(t, text)
		for _, w := range plain.Filled(p.Decls, 1) {
			want := api.Outcome{Errno: api.ErrCap}
			if behind, steps, is := w.Run(p, p.Main, 60+at, plain.AsIs); is {
				want = api.Outcome{Steps: steps, Out: loadsOf(behind)}
				ends++
			} else {
				capped++
			}
			wantOutcome(t, text, driver.Means(jobOf(text, w), 60+at), want)
		}
	}
	if ends < 100 || capped < 2 {
		t.Error("too few:", ends, capped)
	}
}
