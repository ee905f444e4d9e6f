package eval_test

import (
	"math"
	"slices"
	"testing"

	"reticule/api"
	"reticule/column"
	"reticule/eval"
	"reticule/graph"
	"reticule/plain"
)

func wantList(t *testing.T, what string, got []api.Word, gotE api.Errno, want []api.Word, wrong api.Errno) {
	t.Helper()
	if !slices.Equal(got, want) || gotE != wrong {
		t.Errorf("%s: %d, %d, not %d, %d", what, got, gotE, want, wrong)
	}
}

func TestP13_2All(t *testing.T) {
	g, table := world().Graph(), world().Table()
	for text, want := range map[string][]api.Word{
		"5": {5, 5, 5}, "s": {7, 7, 7}, "(count)": {3, 3, 3}, "(id)": {0, 1, 2}, "(own a)": {10, 20, 30}, "(deg out)": {1, 1, 2}, "(deg in)": {2, 2, 0},
		"(+ (own a) (id))": {10, 21, 32}, "(if (own c) 1 (own x))": {1, 3, 1}, "(/ 6 (id))": {0, 6, 3},
	} {
		p, e := expr(t, text)
		got, wrong := eval.All(p, e, g, table)
		wantList(t, text, got, wrong, want, api.OK)
	}
	for text, want := range map[string]api.Errno{
		"zz": api.ErrNoent, "(own s)": api.ErrNoent, "(via w)": api.ErrRange, "(far a)": api.ErrRange, "(farid)": api.ErrRange, "(via a)": api.ErrNoent, "(far zz)": api.ErrNoent,
		"(if (= (id) 9) (farid) 1)": api.ErrRange, "(+ (farid) zz)": api.ErrRange, "(+ zz (farid))": api.ErrNoent,
	} {
		p, e := expr(t, text)
		got, wrong := eval.All(p, e, g, table)
		wantList(t, text, got, wrong, nil, want)
	}
}

// A node is one of the graph: of columns of fewer nodes the first that is missing has the error; more are of no matter.
func TestP13_2AllOfColumnsOfAnotherSize(t *testing.T) {
	p, e := expr(t, "(own a)")
	g := graph.New(3, nil)
	got, wrong := eval.All(p, e, g, plain.Of(2).With("a", api.OfNode, api.Int, 5, 6).Table())
	wantList(t, "fewer", got, wrong, nil, api.ErrRange)
	got, wrong = eval.All(p, e, g, plain.Of(4).With("a", api.OfNode, api.Int, 5, 6, 7, 8).Table())
	wantList(t, "more", got, wrong, []api.Word{5, 6, 7}, api.OK)
	got, wrong = eval.All(p, e, graph.New(1, nil), plain.Of(4).With("a", api.OfNode, api.Int, 5, 6, 7, 8).Table())
	wantList(t, "one", got, wrong, []api.Word{5}, api.OK)
}

func TestP13_2Along(t *testing.T) {
	g, table := world().Graph(), world().Table()
	for text, want := range map[string][2][]api.Word{ // along edges that leave, and that come
		"5": {{5, 5, 5, 5}, {5, 5, 5, 5}}, "s": {{7, 7, 7, 7}, {7, 7, 7, 7}},
		"(id)": {{0, 1, 2, 2}, {0, 0, 1, 1}}, "(farid)": {{1, 1, 0, 0}, {2, 2, 0, 1}},
		"(via w)": {{100, 400, 200, 300}, {200, 300, 100, 400}},
		"(own a)": {{10, 20, 30, 30}, {10, 10, 20, 20}}, "(far a)": {{20, 20, 10, 10}, {30, 30, 10, 20}},
		"(deg out)": {{1, 1, 2, 2}, {1, 1, 1, 1}}, "(deg in)": {{2, 2, 0, 0}, {2, 2, 2, 2}},
		"(+ (via w) (+ (* 10 (id)) (farid)))": {{101, 411, 220, 320}, {202, 302, 110, 411}},
		"(if (via d) (own x) (far x))":        {{3, 3, 4, 4}, {2, 2, 2, 3}},
	} {
		p, e := expr(t, text)
		for i, in := range []bool{false, true} {
			got, wrong := eval.Along(p, e, in, g, table)
			wantList(t, text, got, wrong, want[i], api.OK)
		}
	}
	for _, in := range []bool{false, true} {
		for _, text := range []string{"zz", "(own s)", "(via a)", "(far w)", "(if (< (id) 2) 1 zz)"} {
			p, e := expr(t, text)
			got, wrong := eval.Along(p, e, in, g, table)
			wantList(t, text, got, wrong, nil, api.ErrNoent)
		}
	}
}

func TestP13_2AlongOfFewEdges(t *testing.T) {
	for _, in := range []bool{false, true} {
		for _, text := range []string{"5", "(id)", "(via w)", "zz"} { // where nothing is looked at there is no error
			p, e := expr(t, text)
			got, wrong := eval.Along(p, e, in, graph.New(3, nil), column.New(3, 0))
			wantList(t, text, got, wrong, nil, api.OK)
		}
		p, e := expr(t, "(+ (* 10 (id)) (farid))")
		got, wrong := eval.Along(p, e, in, graph.New(3, []api.Edge{{From: 1, To: 2}}), column.New(3, 1))
		wantList(t, "one edge", got, wrong, [][]api.Word{{12}, {21}}[map[bool]int{true: 1}[in]], api.OK)
		got, wrong = eval.Along(p, e, in, graph.New(1, []api.Edge{{}, {}}), column.New(1, 2))
		wantList(t, "one node", got, wrong, []api.Word{0, 0}, api.OK)
	}
}

// The first error is the one of the least node, and of its first edge.
func TestP13_2TheFirstErrorAlong(t *testing.T) {
	g := graph.New(4, []api.Edge{{From: 3, To: 0}, {From: 1, To: 2}, {From: 0, To: 3}, {From: 1, To: 3}})
	table := plain.Of(3, "00", "00").With("a", api.OfNode, api.Int, 1, 2, 3).With("w", api.OfEdge, api.Int, 8, 9).Table()
	for text, want := range map[string][2]api.Errno{
		"(far a)": {api.ErrRange, api.ErrRange}, "(own a)": {api.ErrRange, api.ErrRange}, "(via w)": {api.ErrRange, api.ErrRange},
		"(+ (far a) zz)":         {api.ErrRange, api.ErrRange}, // the first edge is that from 0 to 3; that from 3 to 0
		"(+ (own a) zz)":         {api.ErrNoent, api.ErrNoent},
		"(+ (via w) zz)":         {api.ErrRange, api.ErrNoent},
		"(+ (far zz) (via w))":   {api.ErrNoent, api.ErrNoent},
		"(if 1 (farid) (via w))": {api.ErrRange, api.ErrRange},
	} {
		p, e := expr(t, text)
		for i, in := range []bool{false, true} {
			got, wrong := eval.Along(p, e, in, g, table)
			wantList(t, text, got, wrong, nil, want[i])
		}
	}
}

func wantSum(t *testing.T, o api.Op, e, cond string, want api.Word, wrong api.Errno) {
	t.Helper()
	p := source(t, "(set z "+e+")")
	at, condAt := len(p.Exprs)-1, -1
	if cond != "" {
		p = source(t, "(set z "+e+") (set z "+cond+")")
		condAt = len(p.Exprs) - 1
	}
	if got, gotE := eval.Sum(p, o, at, condAt, world().Graph(), world().Table()); got != want || gotE != wrong {
		t.Errorf("%d of %s, %s: %d, %d, not %d, %d", o, e, cond, got, gotE, want, wrong)
	}
}

func TestP13_2Sum(t *testing.T) {
	for _, c := range []struct {
		o       api.Op
		e, cond string
		want    api.Word
	}{
		{api.Add, "(own a)", "", 60}, {api.Add, "1", "", 3}, {api.Add, "(deg out)", "", 4}, {api.Add, "(own a)", "(own c)", 40}, {api.Add, "(id)", "(< (id) 2)", 1}, {api.Add, "s", "t", 21},
		{api.Min, "(own a)", "", 10}, {api.Min, "(- 5 (id))", "", 3}, {api.Min, "(own a)", "(< 10 (own a))", 20},
		{api.Max, "(own a)", "", 30}, {api.Max, "(- 5 (id))", "", 5}, {api.Max, "(own a)", "(< (own a) 30)", 20},
		{api.And, "(own c)", "", 0}, {api.And, "true", "", 1}, {api.And, "(own c)", "(own c)", 1}, {api.And, "(own a)", "", 1}, // a number counts as a truth
		{api.Or, "(own c)", "", 1}, {api.Or, "false", "", 0}, {api.Or, "(own c)", "(not (own c))", 0}, {api.Or, "(own a)", "", 1},
		// Of no node it is the first number.
		{api.Add, "(own a)", "false", 0}, {api.Min, "(own a)", "f", math.MaxInt64}, {api.Max, "(own a)", "(< (id) 0)", math.MinInt64}, {api.And, "(own c)", "false", 1}, {api.Or, "(own c)", "0", 0},
		// A condition may be any number; numbers go round.
		{api.Add, "1", "(id)", 2}, {api.Add, "1", "-5", 3}, {api.Add, "9223372036854775807", "", 9223372036854775805},
		// What is not taken in is not looked at.
		{api.Add, "zz", "false", 0}, {api.Add, "(farid)", "f", 0}, {api.Min, "(via w)", "(= (id) 7)", math.MaxInt64},
	} {
		wantSum(t, c.o, c.e, c.cond, c.want, api.OK)
	}
}

func TestP13_2SumErrors(t *testing.T) {
	for _, o := range []api.Op{api.Add, api.Min, api.Max, api.And, api.Or} {
		wantSum(t, o, "zz", "", 0, api.ErrNoent)
		wantSum(t, o, "(farid)", "", 0, api.ErrRange)
		wantSum(t, o, "(via w)", "t", 0, api.ErrRange)
		wantSum(t, o, "1", "zz", 0, api.ErrNoent)
		wantSum(t, o, "1", "(far a)", 0, api.ErrRange)
		// Of a node its condition's error comes first.
		wantSum(t, o, "zz", "(farid)", 0, api.ErrRange)
		wantSum(t, o, "(farid)", "zz", 0, api.ErrNoent)
		wantSum(t, o, "(if (id) 1 2)", "(if (id) zz 2)", 0, api.ErrNoent)
	}
	for o := range 256 {
		if o := api.Op(o); o != api.Add && o != api.Min && o != api.Max && o != api.And && o != api.Or {
			wantSum(t, o, "1", "", 0, api.ErrRange)
			wantSum(t, o, "(own a)", "true", 0, api.ErrRange)
			wantSum(t, o, "zz", "zz", 0, api.ErrRange) // ahead of what is looked at
		}
	}
}

// A lesser node's error comes ahead of a greater one's.
func TestP13_2TheFirstErrorOfASum(t *testing.T) {
	short := plain.Of(2).With("a", api.OfNode, api.Int, 0, 1).With("c", api.OfNode, api.Bool, 0, 1).Table()
	g := graph.New(3, nil)
	for _, c := range []struct {
		e, cond string
		wrong   api.Errno
	}{
		{"(own a)", "(< (id) 2)", api.OK}, {"(own a)", "(< (id) 3)", api.ErrRange}, {"zz", "(own c)", api.ErrNoent}, // that of node 1, then of 2
		{"1", "(own c)", api.ErrRange}, {"(own zz)", "(= (id) 2)", api.ErrNoent}, {"zz", "(= (own c) 7)", api.ErrRange},
	} {
		p := source(t, "(fold z + "+c.e+" "+c.cond+")")
		if _, wrong := eval.Sum(p, api.Add, p.Stmts[0].E, p.Stmts[0].Cond, g, short); wrong != c.wrong {
			t.Errorf("%v: %d", c, wrong)
		}
	}
}

func TestP13_5Constant(t *testing.T) {
	for text, want := range map[string]api.Word{
		"5": 5, "-9223372036854775808": math.MinInt64, "true": 1, "false": 0, "0": 0, "(+ 1 2)": 3, "(/ 1 0)": 0, "(not false)": 1, "(if (< 1 2) (* 3 4) 5)": 12, "(narrow 8 (- 500 300))": -56,
		"(- 1 (- 2 (- 3 (- 4 (- 5 (- 6 (- 7 (- 8 9))))))))": 5, "(+ 9223372036854775807 1)": math.MinInt64,
	} {
		p, e := expr(t, text)
		if got, is := eval.Constant(p, e); got != want || !is {
			t.Errorf("%s: %d, %v, not %d", text, got, is, want)
		}
	}
	for _, leaf := range []string{"s", "zz", "(own a)", "(far a)", "(via w)", "(id)", "(farid)", "(deg out)", "(deg in)", "(count)"} {
		for _, around := range [][2]string{{"", ""}, {"(+ 1 ", ")"}, {"(+ ", " 1)"}, {"(if true 1 ", ")"}, {"(if false ", " 1)"}, {"(if ", " 2 1)"}, {"(* 0 ", ")"}, {"(not (not (and false ", ")))"}} {
			text := around[0] + leaf + around[1]
			p, e := expr(t, text)
			if got, is := eval.Constant(p, e); got != 0 || is {
				t.Errorf("%s: %d, %v", text, got, is)
			}
		}
	}
	// Each part is one for itself, or none.
	p := source(t, "(set s (+ (* 2 3) (- s (+ 4 5)))) (fold s + (id) true)")
	for e, want := range []struct {
		w  api.Word
		is bool
	}{{2, true}, {3, true}, {6, true}, {0, false}, {4, true}, {5, true}, {9, true}, {0, false}, {0, false}, {0, false}, {1, true}} {
		if got, is := eval.Constant(p, e); got != want.w || is != want.is {
			t.Errorf("%d: %d, %v", e, got, is)
		}
	}
}
