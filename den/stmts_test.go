package den_test

import (
	"math"
	"slices"
	"testing"

	"reticule/api"
	"reticule/column"
	"reticule/den"
	"reticule/graph"
	"reticule/plain"
)

// wantRun asks for all columns behind a program over a world (and zeros, where that has no column), and for how many steps it takes; with fewer it is refused.
func wantRun(t *testing.T, w plain.World, text, want string, steps int) {
	t.Helper()
	p := source(t, text)
	w = zeros(w, p)
	g, c := w.Graph(), w.Table()
	for _, fuel := range []int{steps, steps + 1, ample, ample + 1, math.MaxInt} {
		u, got, wrong := den.Run(p, g, c, fuel)
		if wrong != api.OK || got != steps || tell(u) != want {
			t.Errorf("%s, with %d: %s, %d, %d, not %s, %d", text, fuel, tell(u), got, wrong, want, steps)
		}
	}
	for _, fuel := range []int{steps - 1, steps / 2, 0, -1, math.MinInt} {
		if steps > 0 {
			wantCap(t, p, g, c, fuel)
		}
	}
	if !c.Same(w.Table()) {
		t.Errorf("%s: the columns changed: %s", text, tell(c))
	}
}

func wantCap(t *testing.T, p api.Program, g *graph.Graph, c *column.Table, fuel int) {
	t.Helper()
	if u, steps, wrong := den.Run(p, g, c, fuel); u != nil || steps != 0 || wrong != api.ErrCap {
		t.Errorf("%v, with %d: %s, %d, %d", p, fuel, tell(u), steps, wrong)
	}
	if l, wrong := den.Changed(p, g, c, fuel); len(l) != 0 || wrong != api.ErrCap {
		t.Errorf("%v, with %d: %v, %d", p, fuel, l, wrong)
	}
}

func TestP14_2SetIt(t *testing.T) {
	w := plain.Of(3, "01", "20")
	wantRun(t, w, "(int a) (set a 5)", "a=5", 1)
	wantRun(t, w, "(int a) (int b) (set a 5) (set b (+ a (count))) (set a (* b b))", "a=64 b=8", 3)
	wantRun(t, w, "(bool a) (set a (not a)) (set a (and a true))", "a=1", 2)
	wantRun(t, w.With("a", api.OfNode, api.Int, 1, 2, 3).With("a", api.OfEdge, api.Int, 4, 5), "(int a) (set a -9223372036854775808) (set a (- a 1))", "a=9223372036854775807 a[1 2 3] a{4 5}", 2)
}

func TestP14_2FoldIt(t *testing.T) {
	w := plain.Of(3, "01", "20").With("a", api.OfNode, api.Int, 10, 20, 30).With("c", api.OfNode, api.Bool, 1, 0, 1).With("s", api.Scalar, api.Int, 7).With("t", api.Scalar, api.Bool, 1)
	const decls, nodes = "(int s) (bool t) (nint a) (nbool c) ", " a[10 20 30] c[1 0 1]"
	for stmt, want := range map[string]string{
		"(fold s + (own a))": "s=67 t=1", "(fold s + (own a) (own c))": "s=47 t=1", "(fold s + 1 false)": "s=7 t=1", "(fold s min (own a))": "s=7 t=1", "(fold s min (- (own a) 15))": "s=-5 t=1",
		"(fold s max (own a))": "s=30 t=1", "(fold s max (id))": "s=7 t=1", "(fold s max (own a) (< (own a) 25))": "s=20 t=1", "(fold s min 1 false)": "s=7 t=1", "(fold s max 9 false)": "s=7 t=1",
		"(fold t and (own c))": "s=7 t=0", "(fold t and (own c) (own c))": "s=7 t=1", "(fold t or false)": "s=7 t=1", "(fold t and t)": "s=7 t=1", "(fold t and false false)": "s=7 t=1",
		"(fold s + s)":                     "s=28 t=1", // what is taken in is as it was ahead
		"(fold s + (* s (id)) (< (id) s))": "s=28 t=1", "(fold s + (deg out))": "s=9 t=1", "(fold s + (count) t)": "s=16 t=1",
	} {
		wantRun(t, w, decls+stmt, want+nodes, 1)
	}
	wantRun(t, w, decls+"(fold s + 1) (fold s + s)", "s=40 t=1"+nodes, 2)
}

func TestP14_2EachIt(t *testing.T) {
	w := plain.Of(3, "01", "20", "20", "11").With("a", api.OfNode, api.Int, 10, 20, 30)
	wantRun(t, w, "(nint a) (nint b) (each (put b (own a)) (push a + out (own b)))", "a[10 20 30] b[10 20 30]", 1)
	wantRun(t, w, "(nint a) (nint b) (each (put b (own a))) (each (push a + out (own b)))", "a[70 50 30] b[10 20 30]", 2)
	wantRun(t, w, "(nint a) (nint b) (each (put a (own b)) (put b (own a))) (each (put a (own b)) (put b (own a)))", "a[10 20 30] b[0 0 0]", 2)
	wantRun(t, w, "(nint a) (each (pull a max in (far a))) (each (pull a max in (far a)))", "a[30 30 30]", 2)
	wantRun(t, plain.Of(3, "01", "12"), "(nint a) (each (push a + out 1))", "a[0 1 1]", 1) // the document's second example of the whole
}

func TestP14_2IfIt(t *testing.T) {
	const decls = "(int a) (int b) (bool c) "
	for stmt, want := range map[string]struct {
		text  string
		steps int
	}{
		"(if true () ())": {"a=0 b=0 c=0", 1}, "(if c () ())": {"a=0 b=0 c=0", 1},
		"(if true ((set a 1)) ((set b 2)))": {"a=1 b=0 c=0", 2}, "(if false ((set a 1)) ((set b 2)))": {"a=0 b=2 c=0", 2}, "(if c ((set a 1)) ())": {"a=0 b=0 c=0", 1}, "(if (not c) () ((set a 1)))": {"a=0 b=0 c=0", 1},
		"(if (= a b) ((set a 5) (set b (+ a 1)) (set a 9)) ())":                          {"a=9 b=6 c=0", 4},
		"(if (not c) ((set c true) (set a 1)) ((set b 1)))":                              {"a=1 b=0 c=1", 3}, // E is looked at once
		"(if true ((if false ((set a 1)) ((set a 2) (if true () ((set b 3)))))) ())":     {"a=2 b=0 c=0", 4},
		"(set c true) (if c ((set c false)) ((set a 1))) (if c ((set b 1)) ((set a 7)))": {"a=7 b=0 c=0", 5},
	} {
		wantRun(t, plain.Of(1), decls+stmt, want.text, want.steps)
	}
}

func TestP14_2WhileItAndLoopIt(t *testing.T) {
	wantRun(t, plain.Of(1), "(int a) (while (< a 3) (set a (+ a 1)))", "a=3", 7) // the chapter's example
	for text, want := range map[string]struct {
		text  string
		steps int
	}{
		"(while false)": {"a=0 b=0", 1}, "(while false (set a 1))": {"a=0 b=0", 1}, "(while (< a 1) (set a 1))": {"a=1 b=0", 3}, "(while (< a 3) (set a (+ a 1)) (set b (+ b a)))": {"a=3 b=6", 10},
		"(loop false)": {"a=0 b=0", 1}, "(loop false (set a 1))": {"a=1 b=0", 2}, "(loop (< a 1) (set a (+ a 1)))": {"a=1 b=0", 2}, "(loop (< a 2) (set a (+ a 1)))": {"a=2 b=0", 4}, "(loop (< a 3) (set a (+ a 1)) (set b (+ b a)))": {"a=3 b=6", 9},
		"(set a 5) (loop (< a 3) (set a (+ a 1)))":                                     {"a=6 b=0", 3},
		"(set a 5) (while (< a 3) (set a (+ a 1)))":                                    {"a=5 b=0", 2},
		"(while (< a 3) (set b 0) (while (< b 2) (set b (+ b 1))) (set a (+ a b)))":    {"a=4 b=2", 17},
		"(loop (< a 3) (loop (< b a) (set b (+ b 1))) (set a (+ a 1)))":                {"a=3 b=3", 12},
		"(while (< a 2) (if (= a 0) ((set a 1)) ((set a 2) (set b 7))))":               {"a=2 b=7", 8},
		"(loop (< a 2) (while false) (set a (+ a 1)) (if true () ())) (set b (* a 2))": {"a=2 b=4", 9},
	} {
		wantRun(t, plain.Of(1), "(int a) (int b) "+text, want.text, want.steps)
	}
	w := plain.Of(3, "01", "12").With("a", api.OfNode, api.Int, 5, 0, 0)
	wantRun(t, w, "(nint a) (bool m) (loop m (set m false) (each (pull a max in (far a))) (fold m or (= (own a) 0)))", "m=0 a[5 5 5]", 8)
}

// What never ends is out of fuel, whatever there is of it.
func TestP14_2WithoutEnd(t *testing.T) {
	for _, text := range []string{"(while true)", "(loop true)", "(int a) (while (= a a) (set a (+ a 1)))", "(int a) (while true (if (= a 0) () ((while true))))", "(loop true (while false))", "(nint d) (bfs d 0 (each (put d (+ (own d) 1))))", "(nint d) (bfs d 0 (while true))", "(while true (while true (while true)))"} {
		p := source(t, text)
		w := zeros(plain.Of(3, "01", "12"), p)
		for _, fuel := range []int{math.MinInt, -1, 0, 1, 2, 3, 50, 399, 400, 401, 1000000, math.MaxInt} {
			wantCap(t, p, w.Graph(), w.Table(), fuel)
		}
	}
}

// counting is a program of so many steps.
func counting(t *testing.T, steps int) api.Program {
	t.Helper()
	p := source(t, "(int a) (int n) (set a 0) (while (< a n) (set a (+ a 1)))")
	if steps%2 == 1 {
		p = source(t, "(int a) (int n) (set a 0) (while (< a n) (set a (+ a 1))) (set a a)")
	}
	return p
}

func TestP14_2MostFuel(t *testing.T) {
	for _, steps := range []int{2, 3, 10, 11, 398, 399, 400, 401, 402, 403} {
		p := counting(t, steps)
		n := api.Word(steps-2) / 2
		w := plain.Of(1).With("a", api.Scalar, api.Int, 0).With("n", api.Scalar, api.Int, n)
		for _, fuel := range []int{steps - 1, steps, steps + 1, 399, 400, 401, 402, 403, 404, 1000, math.MaxInt, math.MaxInt - 1, 1 << 32} {
			if steps > min(fuel, 400) {
				wantCap(t, p, w.Graph(), w.Table(), fuel)
				continue
			}
			u, got, wrong := den.Run(p, w.Graph(), w.Table(), fuel)
			if wrong != api.OK || got != steps {
				t.Errorf("%d steps, with %d: %d, %d", steps, fuel, got, wrong)
			}
			if a, _ := u.Get(api.Key{Name: "a", Side: api.Scalar}, 0); a != n {
				t.Errorf("%d steps, with %d: %d", steps, fuel, a)
			}
		}
	}
}

// Where nothing is done no fuel is needed.
func TestP14_2NoSteps(t *testing.T) {
	for _, text := range []string{"", "(int a)", "(int a) (nint b) (ebool c)"} {
		p := source(t, text)
		w := zeros(world(), p)
		for _, fuel := range []int{math.MinInt, -1, 0, 1, ample, math.MaxInt} {
			u, steps, wrong := den.Run(p, w.Graph(), w.Table(), fuel)
			if wrong != api.OK || steps != 0 || !u.Same(w.Table()) {
				t.Errorf("%q, with %d: %d, %d", text, fuel, steps, wrong)
			}
			if l, wrong := den.Changed(p, w.Graph(), w.Table(), fuel); len(l) != 0 || wrong != api.OK {
				t.Errorf("%q, with %d: %v, %d", text, fuel, l, wrong)
			}
		}
	}
}

func TestP14_2BfsIt(t *testing.T) {
	way := plain.Of(4, "01", "12", "23")
	for text, want := range map[string]struct {
		text  string
		steps int
	}{
		"(nint d) (bfs d 0)": {"d[0 1 2 3]", 5}, "(nint d) (bfs d 1)": {"d[-1 0 1 2]", 4}, "(nint d) (bfs d 3)": {"d[-1 -1 -1 0]", 2},
		// Roots that are no nodes.
		"(nint d) (bfs d 4)": {"d[-1 -1 -1 -1]", 1}, "(nint d) (bfs d -1)": {"d[-1 -1 -1 -1]", 1}, "(nint d) (bfs d 9223372036854775807)": {"d[-1 -1 -1 -1]", 1}, "(nint d) (bfs d -9223372036854775808)": {"d[-1 -1 -1 -1]", 1}, "(nint d) (bfs d 4294967296)": {"d[-1 -1 -1 -1]", 1},
		"(nint d) (bfs d (count))": {"d[-1 -1 -1 -1]", 1}, "(nint d) (bfs d (- (count) 2))": {"d[-1 -1 0 1]", 3},
		"(int s) (nint d) (bfs d 4 (set s 1))": {"s=0 d[-1 -1 -1 -1]", 1},
		// What is done within, once for each level; E is looked at once.
		"(int s) (nint d) (bfs d 1 (set s (+ s 1)))":                                    {"s=3 d[-1 0 1 2]", 7},
		"(int s) (nint d) (bfs d s (set s 3))":                                          {"s=3 d[0 1 2 3]", 9},
		"(int s) (nint d) (bfs d 2 (fold s + (own d)))":                                 {"s=-4 d[-1 -1 0 1]", 5},
		"(nint d) (nint e) (bfs d 0 (each (push e + out (+ (own d) 1) (< (own d) 2))))": {"d[0 1 2 3] e[0 4 6 0]", 9},
		// What is done within may change the levels.
		"(nint d) (bfs d 0 (each (put d 9 (= (own d) 1))))":      {"d[0 9 -1 -1]", 5},
		"(nint d) (bfs d 0 (each (put d -1)))":                   {"d[-1 -1 -1 -1]", 3},
		"(nint d) (bfs d 0 (each (put d 0 (= (id) 2))))":         {"d[0 1 0 1]", 5},
		"(nint d) (bfs d 0 (bfs d 2))":                           {"d[-1 -1 0 1]", 9},
		"(nint d) (nint e) (bfs d 2 (bfs e 1 (each (put d 1))))": {"d[1 1 1 1] e[-1 0 1 2]", 17},
	} {
		wantRun(t, way, text, want.text, want.steps)
	}
}

func TestP14_2BfsItOverOtherGraphs(t *testing.T) {
	for _, c := range []struct {
		w     plain.World
		root  string
		want  string
		steps int
	}{
		{plain.Of(3, "01", "12"), "0", "d[0 1 2]", 4}, // the document's first example of the whole
		{plain.Of(1), "0", "d[0]", 2}, {plain.Of(1, "00", "00"), "0", "d[0]", 2}, {plain.Of(1, "00"), "1", "d[-1]", 1},
		{plain.Of(3), "1", "d[-1 0 -1]", 2}, {plain.Of(3, "01", "20", "20", "11"), "2", "d[1 2 0]", 4}, {plain.Of(3, "01", "20", "20", "11"), "0", "d[0 1 -1]", 3},
		{plain.Of(4, "01", "12", "23", "30", "02"), "0", "d[0 1 1 2]", 4}, {plain.Of(4, "01", "12", "23", "30", "02"), "3", "d[1 2 2 0]", 4},
		{plain.Of(5, "01", "02", "13", "23", "34", "04"), "0", "d[0 1 1 2 1]", 4},
	} {
		wantRun(t, c.w, "(nint d) (bfs d "+c.root+")", c.want, c.steps)
		// What stood in the column is of no matter.
		d := plain.Column{Kind: api.Int, Vals: make([]api.Word, c.w.Nodes)}
		for v := range d.Vals {
			d.Vals[v] = api.Word(v%3) - 1
		}
		wantRun(t, c.w.With("d", api.OfNode, api.Int, d.Vals...), "(nint d) (bfs d "+c.root+")", c.want, c.steps)
	}
}

// wantDo asks for all columns behind one statement, and for its steps.
func wantDo(t *testing.T, p api.Program, at int, w plain.World, want string, steps int) {
	t.Helper()
	g, c := w.Graph(), w.Table()
	for _, fuel := range []int{steps, steps + 1, ample, ample + 1, math.MaxInt} {
		u, got, wrong := den.Do(p, at, g, c, fuel)
		if wrong != api.OK || got != steps || tell(u) != want {
			t.Errorf("%d, with %d: %s, %d, %d, not %s, %d", at, fuel, tell(u), got, wrong, want, steps)
		}
	}
	for _, fuel := range []int{steps - 1, 0, -1, math.MinInt} {
		if u, got, wrong := den.Do(p, at, g, c, fuel); u != nil || got != 0 || wrong != api.ErrCap {
			t.Errorf("%d, with %d: %s, %d, %d", at, fuel, tell(u), got, wrong)
		}
	}
	if !c.Same(w.Table()) {
		t.Errorf("%d: the columns changed: %s", at, tell(c))
	}
}

func TestP14_2Do(t *testing.T) {
	p := source(t, "(int a) (nint d) (if (< a 5) ((while (< a 3) (set a (+ a 1))) (loop (< a 3) (set a (+ a 2)))) ((set a 9))) (bfs d a (each (put d (* 2 (own d)) (< 0 (own d))))) (fold a max (own d))")
	w := zeros(plain.Of(3, "01", "12"), p)
	for at, c := range []struct {
		want  string
		steps int
	}{
		{"a=1 d[0 0 0]", 1}, {"a=3 d[0 0 0]", 7}, {"a=2 d[0 0 0]", 1}, {"a=4 d[0 0 0]", 4}, {"a=9 d[0 0 0]", 1}, {"a=5 d[0 0 0]", 10},
		{"a=0 d[0 0 0]", 1}, {"a=0 d[0 4 -1]", 7}, {"a=0 d[0 0 0]", 1},
	} {
		wantDo(t, p, at, w, c.want, c.steps)
	}
	if len(p.Stmts) != 9 {
		t.Error("statements are missing")
	}
	for _, at := range []int{-1, -2, 9, 10, math.MaxInt, math.MinInt, 1 << 32} {
		for _, fuel := range []int{-1, 0, ample} {
			if u, steps, wrong := den.Do(p, at, w.Graph(), w.Table(), fuel); u != nil || steps != 0 || wrong != api.ErrRange {
				t.Errorf("%d, with %d: %v, %d, %d", at, fuel, u, steps, wrong)
			}
		}
	}
	if u, steps, wrong := den.Do(api.Program{}, 0, w.Graph(), w.Table(), 5); u != nil || steps != 0 || wrong != api.ErrRange {
		t.Error(u, steps, wrong)
	}
}

func TestP14_7Changed(t *testing.T) {
	const decls = "(int z) (int a) (bool b) (nint z) (nint a) (eint a) "
	for text, want := range map[string][]string{
		"": nil, "(set a 1)": {"a"}, "(set z 1) (set a 1)": {"a", "z"}, "(set b true)": {"b"},
		"(set a 0)": nil, "(set a 5) (set a 0)": nil, "(set b (not b)) (set b (not b))": nil, // what has the value that it had
		"(each (put z 0) (put a (own z)))": nil, "(each (put z (id)))": {"nz"}, "(each (put z 1 (= (id) 1)))": {"nz"}, "(each (put z 1 false))": nil, "(each (push a + out 1))": {"na"}, "(each (push a + out 0))": nil,
		"(bfs a 0)": {"na"}, "(bfs a 7) (each (put a 0))": nil, "(fold a + (own a))": nil, "(fold z + 1)": {"z"},
		"(each (put z (id)) (put a (id))) (set z 1) (set b true) (set a 2)": {"a", "b", "z", "na", "nz"},
		"(if b ((set a 1)) ((set z 1)))":                                    {"z"}, "(while false (set a 1))": nil, "(loop false (set a 1))": {"a"},
	} {
		p := source(t, decls+text)
		w := zeros(plain.Of(3, "01", "12"), p).With("other", api.Scalar, api.Int, 3)
		got, wrong := den.Changed(p, w.Graph(), w.Table(), ample)
		var names []string
		for _, k := range got {
			names = append(names, map[api.Side]string{api.OfNode: "n", api.OfEdge: "e"}[k.Side]+k.Name)
		}
		if wrong != api.OK || !slices.Equal(names, want) {
			t.Errorf("%s: %v, %d, not %v", text, names, wrong, want)
		}
	}
	p := source(t, "(int a) (set a 5) (set a 0)")
	w := zeros(plain.Of(1), p).With("a", api.Scalar, api.Int, 5)
	if got, wrong := den.Changed(p, w.Graph(), w.Table(), 2); wrong != api.OK || !slices.Equal(got, []api.Key{{Name: "a", Side: api.Scalar}}) {
		t.Error(got, wrong)
	}
	if got, wrong := den.Changed(p, w.Graph(), w.Table(), 1); wrong != api.ErrCap || len(got) != 0 {
		t.Error(got, wrong)
	}
}
