package eval_test

import (
	"math"
	"slices"
	"testing"

	"reticule/api"
	"reticule/column"
	"reticule/eval"
	"reticule/graph"
	"reticule/plain"
	"reticule/prog"
	"reticule/proof"
)

// wantAll asks that all calls but Constant tell one error, and nothing beside it.
func wantAll(t *testing.T, what string, p api.Program, e, cond int, g *graph.Graph, table *column.Table, wrong api.Errno) {
	t.Helper()
	for _, place := range []eval.Place{{}, at(-1, -1, -1), at(99, 99, 99)} {
		if w, got := eval.Value(p, e, g, table, place); w != 0 || got != wrong {
			t.Errorf("%s: Value: %d, %d", what, w, got)
		}
	}
	if l, got := eval.All(p, e, g, table); len(l) != 0 || got != wrong {
		t.Errorf("%s: All: %d, %d", what, l, got)
	}
	for _, in := range []bool{false, true} {
		if l, got := eval.Along(p, e, in, g, table); len(l) != 0 || got != wrong {
			t.Errorf("%s: Along: %d, %d", what, l, got)
		}
	}
	for _, o := range []api.Op{api.Add, api.Sub, api.NoOp, 255} { // that an operation takes not in comes last
		for _, cond := range []int{cond, -1} {
			if w, got := eval.Sum(p, o, e, cond, g, table); w != 0 || got != wrong {
				t.Errorf("%s: Sum: %d, %d", what, w, got)
			}
		}
	}
}

func beyondExprs(p api.Program) []int {
	return []int{-1, -2, len(p.Exprs), len(p.Exprs) + 1, math.MaxInt, math.MinInt, 1 << 32, -1 << 32}
}

func TestNilGraphsAndColumns(t *testing.T) {
	g, table := world().Graph(), world().Table()
	p := source(t, "(set s 1)")
	unsound := api.Program{Main: []int{3}}
	for _, e := range append(beyondExprs(p), 0) {
		for _, q := range []api.Program{p, unsound, {}} {
			wantAll(t, "no graph", q, e, e, nil, table, api.ErrNil)
			wantAll(t, "no columns", q, e, e, g, nil, api.ErrNil)
			wantAll(t, "nothing", q, e, e, nil, nil, api.ErrNil)
		}
	}
}

func TestPlacesThatAreNone(t *testing.T) {
	for _, text := range []string{"", "(int s)", "(set s (+ 1 2))", "(while true)", "(fold s + (own a) (own c))"} {
		p := source(t, text)
		for _, e := range beyondExprs(p) {
			wantAll(t, text, p, e, 0, world().Graph(), world().Table(), api.ErrForm)
			if w, is := eval.Constant(p, e); w != 0 || is {
				t.Errorf("%s: Constant: %d, %v", text, w, is)
			}
		}
		for _, cond := range beyondExprs(p)[1:] {
			for _, o := range []api.Op{api.Add, api.NoOp} {
				if w, wrong := eval.Sum(p, o, 0, cond, world().Graph(), world().Table()); w != 0 || wrong != api.ErrForm {
					t.Errorf("%s, %d: %d, %d", text, cond, w, wrong)
				}
			}
		}
	}
}

func TestProgramsThatAreNotSound(t *testing.T) {
	w := plain.Of(2, "01", "11").Fill(source(t, proof.Sturdy).Decls, 1)
	for what, spoil := range proof.Spoilers() {
		p := source(t, proof.Sturdy)
		if _, wrong := eval.Value(p, 0, w.Graph(), w.Table(), at(0, 0, 1)); wrong != api.OK {
			t.Fatal(wrong)
		}
		spoil(&p)
		if prog.Sound(p) {
			t.Fatalf("%s: it is sound", what)
		}
		for _, e := range []int{-1, 0, 1, 2, len(p.Exprs) - 1, len(p.Exprs), math.MaxInt, math.MinInt} {
			wantAll(t, what, p, e, 0, w.Graph(), w.Table(), api.ErrForm)
			// That holds where there is no edge, too.
			wantAll(t, what, p, e, 0, graph.New(1, nil), column.New(1, 0), api.ErrForm)
			if w, is := eval.Constant(p, e); w != 0 || is {
				t.Errorf("%s: Constant: %d, %v", what, w, is)
			}
		}
	}
}

func TestP1WhateverIsHandedIn(t *testing.T) {
	w := plain.Of(3, "01", "12", "22").Fill(source(t, proof.Sturdy).Decls, 3)
	numbers := []int{-1, 0, 1, 2, 3, 99, math.MinInt, math.MaxInt}
	for i := range 4000 {
		p := source(t, proof.Sturdy)
		p.Decls[i%6].Side, p.Decls[i%6].Kind = api.Side(i%5), api.Kind(i%4)
		p.Exprs[i%6].Kind, p.Exprs[(i+1)%6].Op = api.ExprKind(i%13), api.Op(i%23)
		p.Stmts[i%2].Kind, p.Stmts[1].Acts[i%2].Kind = api.StmtKind(i%11), api.ActKind(i%5)
		p.Exprs[2].Kids = []int{i%9 - 1, i % 8, i % 7}[:i%4]
		p.Main[i%2] = i%7 - 2
		for e := range 9 {
			place := at(numbers[i%8], numbers[i/8%8], numbers[i/64%8])
			eval.Value(p, e-1, w.Graph(), w.Table(), place)
			eval.All(p, e-1, w.Graph(), w.Table())
			eval.Along(p, e-1, i%2 == 0, w.Graph(), w.Table())
			eval.Sum(p, api.Op(i%21), e-1, i%7-1, w.Graph(), w.Table())
			eval.Constant(p, e-1)
		}
	}
}

// bytes are all that columns have.
func bytes(t *testing.T, table *column.Table) []byte {
	t.Helper()
	b, wrong := column.Encode(table)
	if wrong != api.OK {
		t.Fatal(wrong)
	}
	return b
}

func TestP3WhatIsHandedInStays(t *testing.T) {
	for _, text := range []string{"(set i (+ (* i 2) (if b 1 (count))))", "(each (put ni (+ (own ni) (id)) (own nb)) (pull ni max in (far ni)))", "(fold i + (+ (deg in) zz) (via eb))"} {
		p := proof.Program(source(t, "(int i) (bool b) (nint ni) (nbool nb) (eint ei) (ebool eb) "+text))
		for _, w := range plain.Filled(p.Decls, 2) {
			g, table := w.Graph(), w.Table()
			whole, ahead, rows := proof.Whole(p), bytes(t, table), g.Reaches()
			var lists []any
			for e := range p.Exprs {
				eval.Value(p, e, g, table, at(0, 0, 0))
				eval.Sum(p, api.Max, e, len(p.Exprs)-1, g, table)
				eval.Constant(p, e)
				for range 2 {
					all, _ := eval.All(p, e, g, table)
					out, _ := eval.Along(p, e, false, g, table)
					in, _ := eval.Along(p, e, true, g, table)
					lists = append(lists, all, out, in)
				}
			}
			if proof.Whole(p) != whole || !slices.Equal(bytes(t, table), ahead) || !slices.EqualFunc(g.Reaches(), rows, slices.Equal) {
				t.Errorf("%s: something changed", text)
			}
			if !proof.Apart(append(lists, p)...) {
				t.Errorf("%s: lists have memory in common", text)
			}
		}
	}
}

// Nothing is kept: what is done with a list that was answered changes no other answer.
func TestP3AndP6AnswersAreTheCallers(t *testing.T) {
	g, table := world().Graph(), world().Table()
	p, e := expr(t, "(+ (own a) (deg out))")
	for range 3 {
		all, _ := eval.All(p, e, g, table)
		wantList(t, "All", all, api.OK, []api.Word{11, 21, 32}, api.OK)
		out, _ := eval.Along(p, e, false, g, table)
		wantList(t, "Along", out, api.OK, []api.Word{11, 21, 32, 32}, api.OK)
		proof.Spoil(all, 99)
		proof.Spoil(out, 99)
	}
	// The columns are as they are by then.
	table.Fill(api.Key{Name: "a", Side: api.OfNode}, 5)
	all, wrong := eval.All(p, e, g, table)
	wantList(t, "All", all, wrong, []api.Word{6, 6, 7}, api.OK)
}
