package order_test

import (
	"fmt"
	"math"
	"testing"

	"reticule/api"
	"reticule/column"
	"reticule/graph"
	"reticule/order"
	"reticule/plain"
	"reticule/proof"
)

// wantWitness asks for the least number whose order comes to something else; 0 is none.
func wantWitness(t *testing.T, w plain.World, most, want uint64, texts ...string) {
	t.Helper()
	p, l := acts(t, texts...)
	c := w.Table()
	if k, is := order.Witness(p, l, w.Graph(), c, most); k != want || is != (want > 0) {
		t.Errorf("%v, most %d: %d, %v, not %d", texts, most, k, is, want)
	}
	if !c.Same(w.Table()) {
		t.Errorf("%v: the columns changed: %s", texts, plain.Tell(c))
	}
}

// wantLeast asks that a number is the least one, whatever the most is.
func wantLeast(t *testing.T, w plain.World, least uint64, texts ...string) {
	t.Helper()
	for _, most := range []uint64{0, 1, 2, least - 1, least, least + 1, 63, 64, 65, 1 << 32, math.MaxUint64} {
		want := least
		if most < least {
			want = 0
		}
		wantWitness(t, w, most, want, texts...)
	}
}

// wantNone asks that there is none, whatever the most is.
func wantNone(t *testing.T, w plain.World, texts ...string) {
	t.Helper()
	for _, most := range []uint64{0, 1, 64, 65, math.MaxUint64} {
		wantWitness(t, w, most, 0, texts...)
	}
}

func TestP15_4Witness(t *testing.T) {
	wantLeast(t, world(), 1, "(put a 1)", "(put a 2)")
	wantLeast(t, world(), 1, "(put a (own b) (own c))", "(put a 2 (= (id) 0))")
	wantLeast(t, world(), 1, "(put a 1)", "(push a + out 1)")
	wantLeast(t, world(), 1, "(push a max in 90)", "(pull a + out 1)")
	// The two that clash stand ahead of others.
	wantLeast(t, world(), 2, "(put a 1)", "(put a 2)", "(put c true)")
	wantLeast(t, world(), 6, "(put a 1)", "(put a 2)", "(put c true)", "(put b 1)")
	wantLeast(t, world(), 24, "(put a 1)", "(put a 2)", "(put c true)", "(put b 1)", "(put d 1 false)")
	wantLeast(t, world(), 30, "(put a 1)", "(put b 1)", "(put a 2)", "(put c true)", "(put d 1 false)")
	wantLeast(t, world(), 32, "(put b 1)", "(put a 1)", "(put c true)", "(put d 2 false)", "(put a 2)", "(put d 1 false)")
	wantLeast(t, world(), 1, "(put c true)", "(put b 1)", "(put d 1 false)", "(put a 1)", "(put a 2)")
}

func TestP15_4NoWitness(t *testing.T) {
	wantNone(t, world())
	wantNone(t, world(), "(put a 1)")
	// They do not clash.
	wantNone(t, world(), "(put a (own b))", "(put b (own a))")
	wantNone(t, world(), "(push a + out (own b))", "(pull a + in (via w))", "(put b (id))")
	// They clash, and yet come to the same.
	wantNone(t, world(), "(put a 1)", "(put a 1)")
	wantNone(t, world(), "(put a 1 (own c))", "(put a 2 (not (own c)))")
	wantNone(t, world(), "(put a (own a))", "(push a + out 0)")
	wantNone(t, world(), "(push a max out 5)", "(push a min out 50)")
	// The least one is above 64.
	wantNone(t, world(), "(put a 1)", "(put a 2)", "(put c true)", "(put b 1)", "(put d 1 false)", "(put d 2 false)")
}

func TestP15_4WhereARegionHasAnError(t *testing.T) {
	// That of 0 has one: there is none, though others come to something.
	wantNone(t, world(), "(put a 1)", "(put a zz)")
	w := plain.Of(3, "10", "20").With("c", api.OfNode, api.Bool, 0, 0, 0).With("a", api.OfNode, api.Int, 0, -1, 1).With("b", api.OfNode, api.Int, 7, 7, 7)
	wantNone(t, w, "(push c + out (own a))", "(put b 1)", "(put b 2)")
	// One has an error ahead of the least one that has none: node 1 comes behind node 2 there.
	w = w.With("a", api.OfNode, api.Int, 0, 1, -1)
	wantLeast(t, w, 3, "(put b 1)", "(push c + out (own a))", "(put b 2)") // 1 and 4 and 5 have errors; of 2 the acts come as of 0, but for the one that pushes
	p, l := acts(t, "(put b 1)", "(push c + out (own a))", "(put b 2)")
	for k, want := range []api.Errno{api.OK, api.ErrForm, api.OK, api.OK, api.ErrForm, api.ErrForm} {
		if _, wrong := order.Region(p, l, w.Graph(), w.Table(), uint64(k)); wrong != want {
			t.Errorf("order %d: %d, not %d", k, wrong, want)
		}
	}
}

// guarded is a world of twelve nodes, in which a column of truths takes the nodes' weights in without an error in few orders alone: each row has its start, and the weights of the last five nodes.
func guarded(rows ...[5]api.Word) plain.World {
	w := plain.Of(12)
	start, weights := make([]api.Word, 12), []api.Word{}
	for to, row := range rows {
		start[to] = 1
		for i, weight := range row {
			w.Edges = append(w.Edges, api.Edge{From: 7 + i, To: to})
			weights = append(weights, weight)
		}
	}
	return w.With("c", api.OfNode, api.Bool, start...).With("w", api.OfEdge, api.Int, weights...).With("a", api.OfNode, api.Int, make([]api.Word, 12)...)
}

func TestP15_4AtMost64(t *testing.T) {
	texts := []string{"(put a 1)", "(push c + out (via w))", "(put a 2)"}
	// Of the orders up to these 0 and 64, 0 and 65 alone have no error, and the last ones let the acts come the other way.
	last := guarded([5]api.Word{-1, 1, -1, 1, 0}, [5]api.Word{-1, 1, 0, -1, 1}, [5]api.Word{0, 0, -1, 0, 1})
	behind := guarded([5]api.Word{-1, 1, -1, 1, -1}, [5]api.Word{-1, 1, 0, -1, 0}, [5]api.Word{0, 0, -1, 0, 1})
	p, l := acts(t, texts...)
	for w, least := range map[*plain.World]uint64{&last: 64, &behind: 65} {
		first, wrong := order.Region(p, l, w.Graph(), w.Table(), 0)
		if wrong != api.OK {
			t.Fatal(least, wrong)
		}
		for k := uint64(1); k < least; k++ {
			if _, wrong := order.Region(p, l, w.Graph(), w.Table(), k); wrong != api.ErrForm {
				t.Fatal(least, k, wrong)
			}
		}
		if u, wrong := order.Region(p, l, w.Graph(), w.Table(), least); wrong != api.OK || u.Same(first) {
			t.Fatal(least, wrong)
		}
	}
	wantLeast(t, last, 64, texts...)
	wantNone(t, behind, texts...)
}

// Witness is what Region tells, one order behind the other.
func TestP15_4AgainstRegion(t *testing.T) {
	all := worlds(t, 1)
	found, least := 0, map[uint64]int{}
	proof.Rows(3, fitting(), func(row []string) {
		if found++; len(row) == 0 || found%4 != 0 {
			return
		}
		w := all[found%len(all)]
		p, l := acts(t, row...)
		var first plain.World
		wrong := api.OK
		want := uint64(0)
		for k := uint64(0); k <= 8 && want == 0; k++ {
			behind, e := w.Region(p, l, plain.ByNumber(k))
			if k == 0 {
				first, wrong = behind, e
			} else if e == api.OK && wrong == api.OK && !behind.Same(first) {
				want = k
			}
		}
		least[want]++
		wantWitness(t, w, 8, want, row...)
	})
	if least[0] < 200 || least[1] < 20 || least[2] < 10 || least[3] < 20 {
		t.Error("too few regions:", least)
	}
}

func TestP15_4NilThings(t *testing.T) {
	p, l := acts(t, "(put a 1) (put a 2)")
	g, c := world().Graph(), world().Table()
	for _, most := range []uint64{0, 1, 64, math.MaxUint64} {
		for _, gc := range []struct {
			g *graph.Graph
			c *column.Table
		}{{nil, c}, {g, nil}, {nil, nil}} {
			for _, q := range []api.Program{p, {}} {
				for _, m := range [][]api.Act{l, nil} {
					if k, is := order.Witness(q, m, gc.g, gc.c, most); k != 0 || is {
						t.Error(fmt.Sprint(gc, most), k, is)
					}
				}
			}
		}
		if k, is := order.Witness(api.Program{}, l, g, c, most); k != 0 || is {
			t.Error(most, k, is)
		}
	}
}
