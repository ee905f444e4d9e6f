package kernel_test

import (
	"math"
	"slices"
	"testing"

	"reticule/api"
	"reticule/kernel"
	"reticule/plain"
	"reticule/proof"
)

func TestP23_1Puts(t *testing.T) {
	wantPuts(t, "(put a 7)", "a=7", "a=7", "a=7", "a=7")
	wantPuts(t, "(put a (+ (own b) i))", "a=15", "a=25", "a=35", "a=45")
	wantPuts(t, "(put a (id)) (put b (deg out)) (put c (< (deg in) 1))", "a=0 b=3 c=0", "a=1 b=0 c=0", "a=2 b=2 c=0", "a=3 b=0 c=1")
	// With a condition: only where that is true, which all but 0 is.
	wantPuts(t, "(put a (own b) (own c))", "a=10", "", "a=30", "")
	wantPuts(t, "(put a 1 (- (id) 1))", "a=1", "", "a=1", "a=1")
	wantPuts(t, "(put a 1 true) (put b 2 false) (put c true y)", "a=1 c=1", "a=1 c=1", "a=1 c=1", "a=1 c=1")
	// In the order of the acts; what one puts the next one does not see, and several of one name are all told.
	wantPuts(t, "(put b (own a)) (put a (own b)) (put b 3 (own c))", "b=1 a=10 b=3", "b=2 a=20", "b=4 a=30 b=3", "b=8 a=40")
	// A name that no column has may be put; that it can stand somewhere nobody asks here.
	wantPuts(t, "(put zz 1) (put i 2) (put c 9)", "zz=1 i=2 c=9")
	// What is pushed is not put, wherever it stands; nor is it looked at.
	wantPuts(t, "(push a + out 1)", "", "", "", "")
	wantPuts(t, "(push a + out (own zz)) (put b 1) (push a + in 1 (own zz)) (put a 2) (push zz max out 4)", "b=1 a=2")
}

func TestP23_1Sends(t *testing.T) {
	// The chapter's example, at nodes with three edges, without, with one to themselves, and without any.
	wantSends(t, "(push a + out 1)", 0, "1.0=1 1.0=1 2.0=1", "", "0.0=1 2.0=1", "")
	wantSends(t, "(push a + in 1)", 0, "2.0=1", "0.0=1 0.0=1", "2.0=1 0.0=1", "")
	// What is sent hangs on the node, the edge, and the other end.
	wantSends(t, "(push a + out (via w))", 0, "1.0=100 1.0=300 2.0=500", "", "0.0=200 2.0=400", "")
	wantSends(t, "(push a + in (via w))", 0, "2.0=200", "0.0=100 0.0=300", "2.0=400 0.0=500", "")
	wantSends(t, "(push a + out (+ (own b) (far a)))", 0, "1.0=12 1.0=12 2.0=14", "", "0.0=31 2.0=34", "")
	wantSends(t, "(push a + in (- (* 10 (farid)) (id)))", 0, "2.0=20", "0.0=-1 0.0=-1", "2.0=18 0.0=-2", "")
	// With a condition, which stands at the node alone.
	wantSends(t, "(push a + out (own a) (own c))", 0, "1.0=1 1.0=1 2.0=1", "", "0.0=4 2.0=4", "")
	wantSends(t, "(push a + out 1 (id))", 0, "", "", "0.0=1 2.0=1", "")
	wantSends(t, "(push a + out 1 false) (push b min in 2 (< (own b) 25))", 0, "2.1=2", "0.1=2 0.1=2", "", "")
	// The act's place is the tag, those that put count; all acts of the first one on, whatever their names.
	wantSends(t, "(put a 1) (push a + out 5) (put b (own zz)) (push a + in 6) (push zz or out 7 (own c))", 0, "1.1=5 1.1=5 2.1=5 2.3=6 1.4=7 1.4=7 2.4=7", "0.3=6 0.3=6", "0.1=5 2.1=5 2.3=6 0.3=6 0.4=7 2.4=7", "")
	wantSends(t, "(put a 1) (put b 2 true)", 0, "", "", "", "")
}

// The edges come in the order of the number, and what came of all acts is turned by it once more.
func TestP23_1SendsInOrders(t *testing.T) {
	for k, want := range map[uint64]string{
		0:              "1.0=100 1.0=300 2.0=500", // the order 0 1 2, twice
		1:              "1.0=100 1.0=300 2.0=500", // 0 2 1, twice: back again
		2:              "1.0=100 1.0=300 2.0=500", // 1 0 2
		3:              "2.0=500 1.0=100 1.0=300", // 1 2 0, twice
		4:              "1.0=300 2.0=500 1.0=100", // 2 0 1
		5:              "1.0=100 1.0=300 2.0=500", // 2 1 0
		6:              "1.0=100 1.0=300 2.0=500", // there are six orders: from the first one on again
		9:              "2.0=500 1.0=100 1.0=300",
		math.MaxUint64: "2.0=500 1.0=100 1.0=300", // 3 more than a multiple of 6
	} {
		wantSends(t, "(push a + out (via w))", k, want)
	}
	// What comes of two acts is turned as one row: of four messages the order 1 is 0 1 3 2.
	wantSends(t, "(push a + out (via w)) (push b + in (via w))", 1, "1.0=100 2.0=500 2.1=200 1.0=300", "0.1=100 0.1=300", "2.0=400 0.0=200 2.1=400 0.1=500", "")
	wantSends(t, "(push a + out (via w))", 1, "1.0=100 1.0=300 2.0=500", "", "0.0=200 2.0=400")
}

// A node may have more edges than are turned: they come as they are, or the last one first; and so do rows of messages.
func TestP23_1SendsOfManyEdges(t *testing.T) {
	p, l := region(t, "(push a + out (via w)) (push a + in (via w)) (push b max out (farid))")
	for _, edges := range []int{15, 16, 17, 18, 30} {
		w := plain.Of(2)
		for i := range edges {
			w.Edges = append(w.Edges, api.Edge{From: 0, To: i % 2})
		}
		var vals []api.Word
		for i := range edges {
			vals = append(vals, api.Word(i))
		}
		w = w.With("a", api.OfNode, api.Int, 0, 0).With("b", api.OfNode, api.Int, 0, 0).With("w", api.OfEdge, api.Int, vals...)
		for _, k := range seeds() {
			for v := range w.Nodes {
				wantModel(t, p, l, w, w.Table(), v, k)
			}
		}
	}
	w := plain.Of(1)
	w.Edges = slices.Repeat([]api.Edge{{}}, 17)
	p, l = region(t, "(push a + out 1)")
	if m, e := kernel.Sends(p, l, w.Graph(), w.Table(), 0, 1); e != api.OK || len(m) != 17 || m[0] != (api.Message{Val: 1}) {
		t.Error(m, e)
	}
}

func TestP23_1OfNoActs(t *testing.T) {
	w := square()
	for _, p := range []api.Program{{}, source(t, "(each (put a 1))")} {
		for _, l := range [][]api.Act{nil, {}} {
			for v := range w.Nodes {
				if got, e := kernel.Puts(p, l, w.Graph(), w.Table(), v); e != api.OK || len(got) != 0 {
					t.Error(got, e)
				}
				if got, e := kernel.Sends(p, l, w.Graph(), w.Table(), v, 3); e != api.OK || len(got) != 0 {
					t.Error(got, e)
				}
				if got, e := kernel.Takes(p, l, w.Table(), v, []api.Message{{To: v}, {To: v, Tag: 1}}); e != api.OK || len(got) != 0 {
					t.Error(got, e)
				}
			}
		}
	}
}

// puttings and pushings are acts of which some have errors: at all nodes (zz is no column), along no edge, or where columns are too short.
const (
	puttings = "(put a (own b)) (put b (far a)) (put a (via w) false) (put c y (own zz)) (put a 3 (own c)) (put zz (+ (id) i))"
	pushings = "(push a + out (+ (far b) (via zz))) (push b max in (farid) (own c)) (push c or out (own c)) (push a + in (* (via w) (own a)) (id)) (push zz min out 1) (push a and out 1 (far a))"
)

// pooled is a program with these acts, and all of them.
func pooled(t *testing.T) (api.Program, []api.Act) {
	t.Helper()
	p := source(t, "(each "+puttings+") (each "+pushings+")")
	return p, slices.Concat(p.Stmts[0].Acts, p.Stmts[1].Acts)
}

// declared are the columns that the pooled acts name, but zz.
func declared() []api.Decl {
	return []api.Decl{{Name: "i", Side: api.Scalar, Kind: api.Int}, {Name: "y", Side: api.Scalar, Kind: api.Bool}, {Name: "a", Side: api.OfNode, Kind: api.Int}, {Name: "b", Side: api.OfNode, Kind: api.Int}, {Name: "c", Side: api.OfNode, Kind: api.Bool}, {Name: "w", Side: api.OfEdge, Kind: api.Int}}
}

// All rows of up to three of the acts, in all orders, over several graphs.
func TestP23_1OfManyActs(t *testing.T) {
	t.Parallel()
	p, acts := pooled(t)
	many := 0
	told := map[[2]api.Errno]int{}
	shapes := plain.Shapes()
	proof.Rows(3, acts, func(l []api.Act) {
		w := shapes[many%len(shapes)].Fill(declared(), uint64(many))
		table, k := w.Table(), seeds()[many%len(seeds())]
		many++
		for v := range w.Nodes {
			told[wantModel(t, p, l, w, table, v, k)]++
		}
	})
	for _, wrong := range []api.Errno{api.OK, api.ErrNoent, api.ErrRange} {
		for _, also := range []api.Errno{api.OK, api.ErrNoent, api.ErrRange} {
			if told[[2]api.Errno{wrong, also}] < 20 {
				t.Error("too few:", wrong, also, told)
			}
		}
	}
}

// Columns of fewer nodes than the graph has: which error is the first hangs on which edge comes first.
func TestP23_1TheFirstErrorInTheOrderOfEdges(t *testing.T) {
	p, l := region(t, "(push a + out (+ (far b) (via zz)))")
	few := plain.Of(2, "01", "10", "01").With("b", api.OfNode, api.Int, 1, 2)
	w := plain.Of(3, "01", "02", "01")
	w.Columns = few.Columns
	for k, want := range []api.Errno{api.ErrNoent, api.ErrNoent, api.ErrRange, api.ErrRange, api.ErrNoent, api.ErrNoent} {
		if m, e := kernel.Sends(p, l, w.Graph(), few.Table(), 0, uint64(k)); e != want || len(m) != 0 {
			t.Errorf("%d: %v, %d, not %d", k, m, e, want)
		}
		wantModel(t, p, l, w, few.Table(), 0, uint64(k))
	}
}

// The same of all rows of two acts, where columns have fewer nodes and edges, or more.
func TestP23_1OfColumnsOfOtherSizes(t *testing.T) {
	t.Parallel()
	p, acts := pooled(t)
	told := map[[2]api.Errno]int{}
	for _, shape := range []plain.World{plain.Of(2, "01"), plain.Of(3), plain.Of(5, "01", "12", "23", "34", "40", "11")} {
		columns := shape.Fill(declared(), 3)
		w := square()
		w.Columns = columns.Columns
		proof.Rows(2, acts, func(l []api.Act) {
			for v := range w.Nodes {
				for _, k := range []uint64{0, 1, 5} {
					told[wantModel(t, p, l, w, columns.Table(), v, k)]++
				}
			}
		})
	}
	if len(told) < 9 {
		t.Error(told)
	}
}

func TestP23_1Ops(t *testing.T) {
	for i, c := range []struct {
		l    []api.Act
		want []api.Op
	}{
		{nil, nil}, {[]api.Act{}, nil},
		{[]api.Act{{Kind: api.PutIt}}, []api.Op{api.NoOp}},
		{[]api.Act{{Kind: api.PushIt, Op: api.Max}, {Kind: api.PutIt}, {Kind: api.PushIt, Op: api.Add}}, []api.Op{api.Max, api.NoOp, api.Add}},
		// What can not be is told as it stands; of what puts there is none.
		{[]api.Act{{Kind: api.PutIt, Op: api.Add}, {Kind: api.PullIt, Op: api.Min}, {Kind: api.PushIt, Op: api.Sub}, {Op: api.Or}, {Kind: 9, Op: 99}, {Kind: api.PushIt}}, []api.Op{api.NoOp, api.Min, api.Sub, api.Or, 99, api.NoOp}},
		{slices.Repeat([]api.Act{{Kind: api.PushIt, Op: api.And, E: -5, Cond: 70}}, 40), slices.Repeat([]api.Op{api.And}, 40)},
	} {
		if got := kernel.Ops(c.l); !slices.Equal(got, c.want) {
			t.Errorf("%d: %v, not %v", i, got, c.want)
		}
	}
	_, l := region(t, "(push a + out 1) (put b 1) (push a min in 2) (push a and out 3) (push a or in 4) (push a max in 5)")
	if got := kernel.Ops(l); !slices.Equal(got, []api.Op{api.Add, api.NoOp, api.Min, api.And, api.Or, api.Max}) {
		t.Error(got)
	}
}
