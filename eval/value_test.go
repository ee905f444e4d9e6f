package eval_test

import (
	"math"
	"testing"

	"reticule/api"
	"reticule/column"
	"reticule/eval"
	"reticule/graph"
	"reticule/plain"
	"reticule/prog"
	"reticule/proof"
)

// The calls have the signatures that the chapter lists.
var (
	_ func(p api.Program, e int, g *graph.Graph, t *column.Table, at eval.Place) (api.Word, api.Errno)  = eval.Value
	_ func(p api.Program, e int, g *graph.Graph, t *column.Table) ([]api.Word, api.Errno)               = eval.All
	_ func(p api.Program, o api.Op, e, cond int, g *graph.Graph, t *column.Table) (api.Word, api.Errno) = eval.Sum
	_ func(p api.Program, e int, in bool, g *graph.Graph, t *column.Table) ([]api.Word, api.Errno)      = eval.Along
	_ func(p api.Program, e int) (api.Word, bool)                                                       = eval.Constant
	_                                                                                                   = eval.Place{Node: int(0), Edge: int(0), Far: int(0)}
)

func source(t *testing.T, text string) api.Program {
	t.Helper()
	p, at, e := prog.Source(text)
	if at != 0 || e != api.OK {
		t.Fatalf("%q is no program: %d, %d", text, at, e)
	}
	return p
}

// expr is a program that has an expression, and its place.
func expr(t *testing.T, text string) (api.Program, int) {
	t.Helper()
	p := source(t, "(set z "+text+")")
	return p, len(p.Exprs) - 1
}

// world has three nodes, with edges 0 to 1, 2 to 0 twice, and from 1 to itself. There is x on all sides.
func world() plain.World {
	return plain.Of(3, "01", "20", "20", "11").
		With("s", api.Scalar, api.Int, 7).With("t", api.Scalar, api.Bool, 1).With("f", api.Scalar, api.Bool, 0).
		With("a", api.OfNode, api.Int, 10, 20, 30).With("c", api.OfNode, api.Bool, 1, 0, 1).
		With("w", api.OfEdge, api.Int, 100, 200, 300, 400).With("d", api.OfEdge, api.Bool, 0, 1, 1, 0).
		With("x", api.Scalar, api.Int, 1).With("x", api.OfNode, api.Int, 2, 3, 4).With("x", api.OfEdge, api.Int, 5, 6, 7, 8)
}

func at(node, edge, far int) eval.Place { return eval.Place{Node: node, Edge: edge, Far: far} }

func wantValue(t *testing.T, text string, place eval.Place, want api.Word, wrong api.Errno) {
	t.Helper()
	p, e := expr(t, text)
	if got, gotE := eval.Value(p, e, world().Graph(), world().Table(), place); got != want || gotE != wrong {
		t.Errorf("%s at %v: %d, %d, not %d, %d", text, place, got, gotE, want, wrong)
	}
}

func TestP13_1NumbersAndScalars(t *testing.T) {
	for text, want := range map[string]api.Word{
		"5": 5, "-9223372036854775808": math.MinInt64, "9223372036854775807": math.MaxInt64, "0": 0, "true": 1, "false": 0,
		"s": 7, "t": 1, "f": 0, "x": 1, "(count)": 3, "(+ s (count))": 10,
	} {
		for _, place := range []eval.Place{at(-1, -1, -1), at(0, 0, 0), at(2, 3, 1), at(99, -7, math.MinInt), at(math.MaxInt, math.MaxInt, math.MaxInt)} {
			wantValue(t, text, place, want, api.OK)
		}
	}
}

// beyond are numbers of no node, and of no edge, of the world.
func beyond() []int {
	return []int{-1, 4, -2, 5, 12, 30, 99, math.MinInt, math.MaxInt, 1 << 32, -1 << 32}
}

func TestP13_1Nodes(t *testing.T) {
	lists := map[string][]api.Word{
		"(own a)": {10, 20, 30}, "(own c)": {1, 0, 1}, "(own x)": {2, 3, 4}, "(id)": {0, 1, 2}, "(deg out)": {1, 1, 2}, "(deg in)": {2, 2, 0},
		"(+ (own a) (id))": {10, 21, 32}, "(+ (* 10 (deg out)) (deg in))": {12, 12, 20}, "(if (own c) (id) (own x))": {0, 3, 2},
	}
	for text, list := range lists {
		for v, want := range list {
			for _, other := range []int{-1, 0, 1, 99} {
				wantValue(t, text, at(v, other, other), want, api.OK)
			}
		}
		for _, v := range append(beyond(), 3) {
			wantValue(t, text, at(v, 0, 0), 0, api.ErrRange)
		}
	}
	for text, list := range map[string][]api.Word{"(far a)": {10, 20, 30}, "(far x)": {2, 3, 4}, "(farid)": {0, 1, 2}, "(- (far a) (farid))": {10, 19, 28}} {
		for v, want := range list {
			for _, other := range []int{-1, 0, 1, 99} {
				wantValue(t, text, at(other, other, v), want, api.OK)
			}
		}
		for _, v := range append(beyond(), 3) {
			wantValue(t, text, at(0, 0, v), 0, api.ErrRange)
		}
	}
	wantValue(t, "(+ (own a) (far a))", at(1, -1, 2), 50, api.OK)
	wantValue(t, "(- (id) (farid))", at(1, -1, 2), -1, api.OK)
}

func TestP13_1Edges(t *testing.T) {
	for text, list := range map[string][]api.Word{"(via w)": {100, 200, 300, 400}, "(via d)": {0, 1, 1, 0}, "(via x)": {5, 6, 7, 8}, "(+ 1 (via w))": {101, 201, 301, 401}} {
		for i, want := range list {
			for _, other := range []int{-1, 0, 1, 99} {
				wantValue(t, text, at(other, i, other), want, api.OK)
			}
		}
		for _, i := range beyond() {
			wantValue(t, text, at(0, i, 0), 0, api.ErrRange)
		}
	}
	// Where an edge is hangs on its number alone, not on its ends.
	wantValue(t, "(+ (own a) (+ (via w) (far a)))", at(2, 0, 2), 160, api.OK)
}

func TestP13_1NamesThatNoColumnHas(t *testing.T) {
	for _, text := range []string{"zz", "(own zz)", "(far zz)", "(via zz)", "a", "w", "(own s)", "(own w)", "(far s)", "(far w)", "(via s)", "(via a)", "xx", "(own x0)", "true1"} {
		for _, place := range []eval.Place{at(0, 0, 0), at(2, 3, 1)} {
			wantValue(t, text, place, 0, api.ErrNoent)
		}
		// That there is no such column comes ahead of that there is no such place.
		wantValue(t, text, at(-1, -1, -1), 0, api.ErrNoent)
		wantValue(t, text, at(99, 99, 99), 0, api.ErrNoent)
	}
}

// The columns may be of another number of nodes and edges than the graph: each is asked for its own.
func TestP13_1ColumnsOfAnotherSize(t *testing.T) {
	g := graph.New(3, []api.Edge{{From: 0, To: 2}, {From: 2, To: 2}})
	few := plain.Of(2, "01").With("a", api.OfNode, api.Int, 5, 6).With("w", api.OfEdge, api.Int, 9).Table()
	many := plain.Of(5, "01", "10", "11").With("a", api.OfNode, api.Int, 5, 6, 7, 8, 9).With("w", api.OfEdge, api.Int, 1, 2, 3).Table()
	for _, c := range []struct {
		text  string
		t     *column.Table
		at    eval.Place
		want  api.Word
		wrong api.Errno
	}{
		{"(own a)", few, at(1, 0, 0), 6, api.OK}, {"(own a)", few, at(2, 0, 0), 0, api.ErrRange}, {"(far a)", few, at(0, 0, 2), 0, api.ErrRange},
		{"(id)", few, at(2, 0, 0), 2, api.OK}, {"(farid)", few, at(0, 0, 2), 2, api.OK}, {"(deg in)", few, at(2, 0, 0), 2, api.OK}, {"(count)", few, at(0, 0, 0), 3, api.OK},
		{"(via w)", few, at(0, 0, 0), 9, api.OK}, {"(via w)", few, at(0, 1, 0), 0, api.ErrRange},
		{"(own a)", many, at(4, 0, 0), 9, api.OK}, {"(far a)", many, at(0, 0, 3), 8, api.OK}, {"(own a)", many, at(5, 0, 0), 0, api.ErrRange},
		{"(id)", many, at(3, 0, 0), 0, api.ErrRange}, {"(farid)", many, at(0, 0, 4), 0, api.ErrRange}, {"(deg out)", many, at(3, 0, 0), 0, api.ErrRange}, {"(count)", many, at(0, 0, 0), 3, api.OK},
		{"(via w)", many, at(0, 2, 0), 3, api.OK}, {"(via w)", many, at(0, 3, 0), 0, api.ErrRange},
	} {
		p, e := expr(t, c.text)
		if got, wrong := eval.Value(p, e, g, c.t, c.at); got != c.want || wrong != c.wrong {
			t.Errorf("%s at %v: %d, %d, not %d, %d", c.text, c.at, got, wrong, c.want, c.wrong)
		}
	}
}

func TestP13_1Calls(t *testing.T) {
	seen := map[api.Op]int{}
	for text, want := range map[string]api.Word{
		"(+ 3 4)": 7, "(+ 9223372036854775807 1)": math.MinInt64, "(- 3 4)": -1, "(- -9223372036854775808 1)": math.MaxInt64, "(* 3 -4)": -12, "(* 4611686018427387904 4)": 0,
		"(/ 7 2)": 3, "(/ -7 2)": -3, "(/ 7 0)": 0, "(/ 0 0)": 0, "(/ s (- s 7))": 0, "(/ -9223372036854775808 -1)": math.MinInt64, "(/ 2 7)": 0,
		"(% 7 2)": 1, "(% -7 2)": -1, "(% 7 0)": 0, "(% 0 0)": 0, "(% 2 7)": 2, "(% -9223372036854775808 -1)": 0,
		"(min 3 4)": 3, "(min 4 -3)": -3, "(max 3 4)": 4, "(max 4 -3)": 4,
		"(shl 1 5)": 32, "(shl 1 64)": 1, "(shl 3 -1)": math.MinInt64, "(shr -8 1)": -4, "(shr 8 65)": 4,
		"(& 12 10)": 8, "(| 12 10)": 14, "(^ 12 10)": 6,
		"(= 3 3)": 1, "(= 3 4)": 0, "(= true true)": 1, "(< 3 4)": 1, "(< 4 3)": 0, "(< 3 3)": 0,
		"(not true)": 0, "(not false)": 1, "(not 5)": 0, "(and true false)": 0, "(and true true)": 1, "(and 5 6)": 1, "(or false false)": 0, "(or false true)": 1, "(or 0 7)": 1,
		"(if true 3 4)": 3, "(if false 3 4)": 4, "(if -5 3 4)": 3, "(if 0 3 4)": 4,
		"(narrow 8 200)": -56, "(narrow 16 40000)": -25536, "(narrow 32 2147483648)": -2147483648, "(narrow 7 200)": 200,
		"(- (- 9 4) (- 3 1))": 3, "(- 1 (- 2 (- 3 (- 4 (- 5 (- 6 (- 7 (- 8 9))))))))": 5, "(if (< s 8) (if (not t) 1 2) (if t 3 4))": 2, "(narrow (+ 4 4) (* 2 100))": -56,
	} {
		p, e := expr(t, text)
		seen[p.Exprs[e].Op]++
		wantValue(t, text, at(-1, -1, -1), want, api.OK)
		wantValue(t, text, at(1, 2, 0), want, api.OK)
	}
	if len(seen) != int(api.LastOp) {
		t.Error("operations are missing:", seen)
	}
}

// All kids are looked at, from the left, whatever comes of them: the first error is told.
func TestP13_1TheFirstErrorOfACall(t *testing.T) {
	none, noent, ranged := at(-1, -1, -1), api.ErrNoent, api.ErrRange
	for text, wrong := range map[string]api.Errno{
		"(+ 1 zz)": noent, "(+ zz 1)": noent, "(+ 1 (id))": ranged, "(+ (id) 1)": ranged, "(not zz)": noent, "(not (farid))": ranged,
		"(+ zz (id))": noent, "(+ (id) zz)": ranged, "(+ (own a) (own zz))": ranged, "(+ (own zz) (own a))": noent,
		"(if zz (id) 1)": noent, "(if (id) zz 1)": ranged, "(if 1 zz (id))": noent, "(if 1 (id) zz)": ranged, "(if 0 zz (id))": noent, "(if 0 (id) zz)": ranged,
		"(if true 1 zz)": noent, "(if false zz 1)": noent, "(if true 1 (id))": ranged, "(if false (id) 1)": ranged, "(if t s (own a))": ranged, "(if f (via w) s)": ranged,
		"(and false zz)": noent, "(or true zz)": noent, "(* 0 zz)": noent, "(/ zz 0)": noent, "(% (id) 0)": ranged, "(and false (deg in))": ranged,
		"(+ (+ 1 zz) (id))": noent, "(+ (+ 1 (id)) zz)": ranged, "(+ (+ 1 2) (if true 1 (+ (far a) zz)))": ranged, "(+ (+ s 2) (if true 1 (+ zz (far a))))": noent,
	} {
		wantValue(t, text, none, 0, wrong)
	}
	// The same at places that are there.
	wantValue(t, "(if true 1 zz)", at(0, 0, 0), 0, noent)
	wantValue(t, "(+ (own a) (own zz))", at(0, 0, 0), 0, noent)
	wantValue(t, "(if true 1 (id))", at(0, 0, 0), 1, api.OK)
}

// A part of an expression is one for itself; so are those of others.
func TestP13_1AnyPlaceOfAProgram(t *testing.T) {
	p := source(t, "(set s (+ (own a) (not t))) (each (put a (if (far c) 1 zz) (via d)) (pull x min in (deg in)))")
	want := []struct {
		w     api.Word
		wrong api.Errno
	}{{20, 0}, {1, 0}, {0, 0}, {20, 0}, {1, 0}, {1, 0}, {0, api.ErrNoent}, {0, api.ErrNoent}, {1, 0}, {2, 0}}
	for e, c := range want {
		if w, wrong := eval.Value(p, e, world().Graph(), world().Table(), at(1, 2, 0)); w != c.w || wrong != c.wrong {
			t.Errorf("%d: %d, %d, not %d, %d", e, w, wrong, c.w, c.wrong)
		}
	}
	if len(want) != len(p.Exprs) {
		t.Error("expressions are missing")
	}
}

func TestP13_1Example(t *testing.T) {
	p, e := expr(t, "(+ (id) (deg out))")
	g := graph.New(3, []api.Edge{{From: 2, To: 0}})
	if w, wrong := eval.Value(p, e, g, column.New(3, 1), at(2, -1, -1)); w != 3 || wrong != api.OK {
		t.Error(w, wrong)
	}
}

// programs does f with programs of all brackets that there are, and with what comes of them by changes.
func programs(t *testing.T, pieces []string, f func(api.Program)) {
	t.Helper()
	for _, text := range append(proof.Sources(), proof.Fitting()...) {
		f(source(t, text))
		proof.Changed(text, pieces, func(changed string) {
			if p, _, e := prog.Source(changed); e == api.OK {
				f(p)
			}
		})
	}
}

func fewPieces() []string {
	return []string{"-1", "a", "i", "b", "(id)", "(farid)", "(own ni)", "(far nb)", "(via ei)", "(deg in)", "(count)", "max", "if", "and", "true"}
}

// few are worlds of columns that some programs name.
func few(t *testing.T) []plain.World {
	t.Helper()
	p := source(t, "(int a) (nint a) (nint b) (int i) (int j) (bool b) (nint ni) (nint nj) (nbool nb) (eint ei) (ebool eb) (eint w)")
	var all []plain.World
	for i, w := range plain.Shapes() {
		all = append(all, w.Fill(p.Decls, uint64(i)))
	}
	return all
}

func TestP13_1AgainstPlainReckoning(t *testing.T) {
	worlds, places := few(t), []eval.Place{at(-1, -1, -1), at(0, -1, -1), at(1, 0, 2), at(0, 1, 0), at(2, 4, 1), at(12, 30, 12), at(11, 29, 0)}
	found, right := 0, 0
	programs(t, fewPieces(), func(p api.Program) {
		found++
		w := worlds[found%len(worlds)]
		g, table := w.Graph(), w.Table()
		for e := range p.Exprs {
			place := places[(found/len(worlds)+e)%len(places)]
			want, wantE := w.Value(p, e, place.Node, place.Edge, place.Far)
			if wantE != api.OK {
				want = 0
			} else {
				right++
			}
			if got, wrong := eval.Value(p, e, g, table, place); got != want || wrong != wantE {
				t.Errorf("%v, %d at %v: %d, %d, not %d, %d", p, e, place, got, wrong, want, wantE)
			}
		}
	})
	if found < 1500 || right < 10000 {
		t.Error("too few programs:", found, right)
	}
}
