package order_test

import (
	"math"
	"slices"
	"testing"

	"reticule/api"
	"reticule/column"
	"reticule/graph"
	"reticule/order"
	"reticule/perm"
	"reticule/plain"
	"reticule/proof"
)

// The calls have the signatures that the chapter lists.
var (
	_ func(p api.Program, l []api.Act, g *graph.Graph, t *column.Table, k uint64) (*column.Table, api.Errno)          = order.Region
	_ func(p api.Program, g *graph.Graph, t *column.Table, fuel int, seeds ...uint64) (*column.Table, int, api.Errno) = order.Run
	_ func(g *graph.Graph, v int, in bool, k uint64) []int                                                            = order.Edges
	_ func(p api.Program, l []api.Act, g *graph.Graph, t *column.Table, most uint64) (uint64, bool)                   = order.Witness
)

func wantEdges(t *testing.T, g *graph.Graph, v int, in bool, k uint64, want ...int) {
	t.Helper()
	got := order.Edges(g, v, in, k)
	if !slices.Equal(got, want) {
		t.Errorf("node %d, in %v, order %d: %d, not %d", v, in, k, got, want)
	}
	proof.Spoil(got, 99)
	if again := order.Edges(g, v, in, k); !slices.Equal(again, want) {
		t.Errorf("node %d, in %v, order %d: %d by the second time", v, in, k, again)
	}
}

// fan has one node with so many edges that leave it, or come to it (in), at places that are told, among edges of other nodes as far as there is room.
func fan(many int, in bool) (*graph.Graph, int, []int) {
	const v = 2
	var l []api.Edge
	var mine []int
	for i := range many {
		if len(l)+many-i < api.MaxEdges && i%2 == 0 {
			l = append(l, api.Edge{From: 0, To: 1})
		}
		e := api.Edge{From: v, To: i % 4} // to itself, too
		if in {
			e = api.Edge{From: i % 4, To: v}
		}
		mine = append(mine, len(l))
		l = append(l, e)
	}
	return graph.New(4, l), v, mine
}

func TestP15_1EdgesInAllOrders(t *testing.T) {
	for _, in := range []bool{false, true} {
		g, v, mine := fan(3, in)
		a, b, c := mine[0], mine[1], mine[2]
		for k, want := range [][]int{{a, b, c}, {a, c, b}, {b, a, c}, {b, c, a}, {c, a, b}, {c, b, a}, {a, b, c}, {a, c, b}} {
			wantEdges(t, g, v, in, uint64(k), want...)
			wantEdges(t, g, v, in, uint64(k)+600, want...)
		}
		wantEdges(t, g, v, in, math.MaxUint64, b, c, a)
		g, v, mine = fan(2, in)
		for _, k := range []uint64{0, 2, 4, 100, math.MaxUint64 - 1} {
			wantEdges(t, g, v, in, k, mine[0], mine[1])
			wantEdges(t, g, v, in, k+1, mine[1], mine[0])
		}
	}
}

func TestP15_1EdgesOfNoneAndOne(t *testing.T) {
	for _, k := range []uint64{0, 1, 2, 3, math.MaxUint64} {
		for _, in := range []bool{false, true} {
			g, v, mine := fan(1, in)
			wantEdges(t, g, v, in, k, mine...)
			g, v, _ = fan(0, in)
			wantEdges(t, g, v, in, k)
			wantEdges(t, graph.New(1, nil), 0, in, k)
			wantEdges(t, graph.New(1, []api.Edge{{}}), 0, in, k, 0)
			for _, v := range []int{-1, 4, 5, math.MaxInt, math.MinInt, 1 << 32} {
				wantEdges(t, g, v, in, k)
				wantEdges(t, nil, v, in, k)
			}
			wantEdges(t, nil, 0, in, k)
		}
	}
}

// Up to MaxPerm edges come in the order of the number.
func TestP15_1EdgesUpToMaxPerm(t *testing.T) {
	for many := range api.MaxPerm + 1 {
		all := perm.Many(many)
		for _, k := range []uint64{0, 1, 2, 3, 7, 1000, all / 2, all - 1, all, all + 1, 2*all - 1, 2*all + 3, 1 << 63, math.MaxUint64} {
			for _, in := range []bool{false, true} {
				g, v, mine := fan(many, in)
				got := order.Edges(g, v, in, k)
				var places []int
				for _, i := range got {
					places = append(places, slices.Index(mine, i))
				}
				if number, wrong := perm.Number(places); wrong != api.OK || number != k%all || len(got) != many {
					t.Errorf("%d edges, in %v, order %d: %d", many, in, k, got)
				}
			}
		}
	}
}

// More than these come as they are, or the last one first.
func TestP15_1EdgesAboveMaxPerm(t *testing.T) {
	for many := api.MaxPerm + 1; many <= api.MaxEdges; many++ {
		for _, in := range []bool{false, true} {
			g, v, mine := fan(many, in)
			back := slices.Clone(mine)
			slices.Reverse(back)
			for _, k := range []uint64{0, 2, 6, 1 << 40, math.MaxUint64 - 1} {
				wantEdges(t, g, v, in, k, mine...)
				wantEdges(t, g, v, in, k+1, back...)
			}
		}
	}
}

func TestP15_1EdgesAreThoseOfTheGraph(t *testing.T) {
	for _, w := range plain.Shapes() {
		g := w.Graph()
		for v := range w.Nodes {
			for k := range uint64(9) {
				out, in := order.Edges(g, v, false, k), order.Edges(g, v, true, k)
				if !proof.Apart(out, in) {
					t.Errorf("node %d, order %d: lists have memory in common", v, k)
				}
				if k == 0 && (!slices.Equal(out, g.Out(v)) || !slices.Equal(in, g.In(v))) {
					t.Errorf("node %d: %d, %d", v, out, in)
				}
				slices.Sort(out)
				slices.Sort(in)
				if !slices.Equal(out, g.Out(v)) || !slices.Equal(in, g.In(v)) {
					t.Errorf("node %d, order %d: %d, %d", v, k, out, in)
				}
			}
		}
	}
}
