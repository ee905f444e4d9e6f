package eval_test

import (
	"slices"
	"testing"

	"reticule/api"
	"reticule/column"
	"reticule/eval"
	"reticule/graph"
	"reticule/num"
	"reticule/perm"
	"reticule/plain"
	"reticule/proof"
	"reticule/typed"
)

// All, Along and Sum are what Value tells, one behind the other.
func TestP13_2AgainstPlainReckoning(t *testing.T) {
	worlds := few(t)
	found := 0
	programs(t, fewPieces()[3:9], func(p api.Program) {
		found++
		w := worlds[found%len(worlds)]
		g, table := w.Graph(), w.Table()
		for e := range p.Exprs {
			want, wrong := plainAll(w, p, e)
			got, gotE := eval.All(p, e, g, table)
			wantList(t, "All", got, gotE, want, wrong)
			for _, in := range []bool{false, true} {
				want, wrong := plainAlong(w, p, e, in)
				got, gotE := eval.Along(p, e, in, g, table)
				wantList(t, "Along", got, gotE, want, wrong)
			}
			cond := (e+found)%(len(p.Exprs)+1) - 1
			for _, o := range []api.Op{api.Add, api.Min, api.Max, api.And, api.Or} {
				sum, wrong := plainSum(w, p, o, e, cond)
				if got, gotE := eval.Sum(p, o, e, cond, g, table); got != sum || gotE != wrong {
					t.Errorf("%v, %d of %d, %d: %d, %d, not %d, %d", p, o, e, cond, got, gotE, sum, wrong)
				}
			}
		}
	})
	if found < 500 {
		t.Error("too few programs:", found)
	}
}

func plainAll(w plain.World, p api.Program, e int) (l []api.Word, wrong api.Errno) {
	for v := range w.Nodes {
		val, wrong := w.Value(p, e, v, -1, -1)
		if wrong != api.OK {
			return nil, wrong
		}
		l = append(l, val)
	}
	return l, api.OK
}

func plainAlong(w plain.World, p api.Program, e int, in bool) (l []api.Word, wrong api.Errno) {
	for v := range w.Nodes {
		for i, edge := range w.Edges {
			near, far := edge.From, edge.To
			if in {
				near, far = far, near
			}
			if near != v {
				continue
			}
			val, wrong := w.Value(p, e, v, i, far)
			if wrong != api.OK {
				return nil, wrong
			}
			l = append(l, val)
		}
	}
	return l, api.OK
}

func plainSum(w plain.World, p api.Program, o api.Op, e, cond int) (api.Word, api.Errno) {
	sum := map[api.Op]api.Word{api.Min: 1<<63 - 1, api.Max: -1 << 63, api.And: 1}[o]
	for v := range w.Nodes {
		if cond >= 0 {
			is, wrong := w.Value(p, cond, v, -1, -1)
			if wrong != api.OK {
				return 0, wrong
			}
			if is == 0 {
				continue
			}
		}
		val, wrong := w.Value(p, e, v, -1, -1)
		if wrong != api.OK {
			return 0, wrong
		}
		sum, _ = num.Do(o, sum, val)
	}
	return sum, api.OK
}

// named are the keys that an expression names.
func named(p api.Program, e int) []api.Key {
	x := p.Exprs[e]
	var l []api.Key
	if side := map[api.ExprKind]api.Side{api.Var: api.Scalar, api.Own: api.OfNode, api.Far: api.OfNode, api.Via: api.OfEdge}[x.Kind]; side != api.NoSide {
		l = append(l, api.Key{Name: x.Name, Side: side})
	}
	for _, kid := range x.Kids {
		l = append(l, named(p, kid)...)
	}
	return l
}

func TestP13_3ValueHangsOnTheColumnsThatItNames(t *testing.T) {
	found := 0
	for _, text := range proof.Fitting() {
		p := source(t, text)
		for _, w := range plain.Filled(p.Decls, 2) {
			g, table := w.Graph(), w.Table()
			for e := range p.Exprs {
				own := named(p, e)
				alone, other := column.New(w.Nodes, len(w.Edges)), table.Fork()
				for _, k := range table.Keys() {
					if slices.Contains(own, k) {
						alone.Declare(k, table.KindOf(k))
						alone.Load(k, table.List(k))
					} else {
						other.Fill(k, 1)
					}
				}
				for _, place := range []eval.Place{at(0, 0, 0), at(w.Nodes-1, len(w.Edges)-1, w.Nodes/2), at(-1, -1, -1)} {
					want, wantE := eval.Value(p, e, g, table, place)
					if wantE == api.OK {
						found++
					}
					for _, c := range []*column.Table{alone, other} {
						if got, wrong := eval.Value(p, e, g, c, place); got != want || wrong != wantE {
							t.Errorf("%s, %d at %v: %d, %d, not %d, %d", text, e, place, got, wrong, want, wantE)
						}
					}
				}
			}
		}
	}
	if found < 1000 {
		t.Error("too few values:", found)
	}
}

// Sum is the same in whatever order: by hand, and of nodes that have other numbers.
func TestP13_4AndE2SumHangsOnNoOrder(t *testing.T) {
	p := source(t, "(nint a) (nbool c) (int z) (fold z + (+ (own a) (* 3 (deg in))) (own c))")
	e, cond := p.Stmts[0].E, p.Stmts[0].Cond
	a, c := api.Key{Name: "a", Side: api.OfNode}, api.Key{Name: "c", Side: api.OfNode}
	for _, w := range plain.Filled(p.Decls, 6) {
		g, table := w.Graph(), w.Table()
		for _, o := range []api.Op{api.Add, api.Min, api.Max, api.And, api.Or} {
			want, wrong := eval.Sum(p, o, e, cond, g, table)
			if wrong != api.OK {
				t.Fatal(wrong)
			}
			for k := uint64(0); k < 400; k += 7 {
				order, _ := perm.From(w.Nodes, k*k*k)
				sum, _ := num.Reduces(o)
				vals, _ := eval.All(p, e, g, table)
				is, _ := eval.All(p, cond, g, table)
				renamed := slices.Clone(w.Edges)
				for i := range renamed {
					renamed[i] = api.Edge{From: order[renamed[i].From], To: order[renamed[i].To]}
				}
				turned := table.Fork()
				for _, v := range order {
					if num.Truth(is[v]) {
						sum, _ = num.Do(o, sum, vals[v])
					}
				}
				for v := range w.Nodes {
					turned.Set(a, order[v], table.List(a)[v])
					turned.Set(c, order[v], table.List(c)[v])
				}
				if got, _ := eval.Sum(p, o, e, cond, graph.New(w.Nodes, renamed), turned); got != want || sum != want {
					t.Errorf("%d, %v: %d, %d, not %d", o, order, got, sum, want)
				}
			}
		}
	}
}

// P11.3: of a program that fits no name is missing, and truths are 0 or 1.
func TestP11_3OfProgramsThatFit(t *testing.T) {
	found := 0
	for _, text := range proof.Fitting() {
		p := source(t, text)
		for _, w := range plain.Filled(p.Decls, 2) {
			if len(w.Edges) == 0 {
				continue
			}
			g, table := w.Graph(), w.Table()
			for e := range p.Exprs {
				got, wrong := eval.Value(p, e, g, table, at(0, 0, w.Nodes-1))
				if wrong != api.OK {
					t.Errorf("%s, %d: %d", text, e, wrong)
				}
				for _, where := range []typed.Where{typed.InPush, typed.InPull} {
					if kind, wrong := typed.KindOf(p, e, where); kind == api.Bool && wrong == api.OK {
						found++
						if got != 0 && got != 1 {
							t.Errorf("%s, %d: %d", text, e, got)
						}
					}
				}
			}
		}
	}
	if found < 100 {
		t.Error("too few truths:", found)
	}
}
