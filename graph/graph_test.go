package graph

import (
	"math"
	"slices"
	"testing"

	"reticule/api"
)

// The calls have the signatures that the chapter lists.
var (
	_ func(int, []api.Edge) *Graph                   = New
	_ func(int, []api.Edge) (int, api.Errno)         = Check
	_ func(*Graph) int                               = (*Graph).N
	_ func(*Graph) int                               = (*Graph).M
	_ func(*Graph, int) (api.Edge, bool)             = (*Graph).Edge
	_ func(*Graph, int) []int                        = (*Graph).Out
	_ func(*Graph, int) []int                        = (*Graph).In
	_ func(g *Graph, v int, in bool) int             = (*Graph).Degree
	_ func(g *Graph, a, b int) []int                 = (*Graph).Between
	_ func(*Graph) ([]int, []int)                    = (*Graph).Rows
	_ func(*Graph) *Graph                            = (*Graph).Turned
	_ func(g *Graph, root int) []int                 = (*Graph).Levels
	_ func(int, []api.Edge) ([]byte, api.Errno)      = Encode
	_ func([]byte) (int, []api.Edge, int, api.Errno) = Decode
	_ func(*Graph) []int                             = (*Graph).Joined
	_ func([]api.Edge) []api.Edge                    = Distinct
	_ func(*Graph) [][]bool                          = (*Graph).Reaches
)

func edge(from, to int) api.Edge { return api.Edge{From: from, To: to} }

// many are m edges from node 0 to itself.
func many(m int) []api.Edge { return make([]api.Edge, m) }

// every yields all lists of up to m edges between n nodes.
func every(n, m int, yield func([]api.Edge)) {
	var grow func(l []api.Edge)
	grow = func(l []api.Edge) {
		yield(l)
		if len(l) == m {
			return
		}
		for from := range n {
			for to := range n {
				grow(append(slices.Clone(l), edge(from, to)))
			}
		}
	}
	grow(nil)
}

// eachGraph does f with small graphs of all kinds, and with greater ones.
func eachGraph(f func(n int, l []api.Edge)) {
	for n := 1; n <= 3; n++ {
		every(n, 3, func(l []api.Edge) { f(n, l) })
	}
	for step := 1; step < api.MaxNodes; step++ {
		var l []api.Edge
		for i := range api.MaxEdges {
			l = append(l, edge(i*i%api.MaxNodes, (i*step+i/7)%api.MaxNodes))
		}
		for _, m := range []int{0, 1, 7, 12, 19, api.MaxEdges} {
			f(api.MaxNodes, l[:m])
		}
	}
	var path []api.Edge
	for v := api.MaxNodes - 1; v > 0; v-- { // the longest way, and against the order of places
		path = append(path, edge(v-1, v))
	}
	f(api.MaxNodes, path)
}

func TestP3_1Check(t *testing.T) {
	last := api.MaxNodes - 1
	for _, c := range []struct {
		n  int
		l  []api.Edge
		at int
		e  api.Errno
	}{
		{0, nil, -1, api.ErrGraph},
		{-1, nil, -1, api.ErrGraph},
		{math.MinInt, nil, -1, api.ErrGraph},
		{math.MaxInt, nil, -1, api.ErrGraph},
		{1, nil, 0, api.OK},
		{1, []api.Edge{}, 0, api.OK},
		{api.MaxNodes, nil, 0, api.OK},
		{api.MaxNodes + 1, nil, -1, api.ErrGraph},
		{api.MaxNodes, []api.Edge{edge(last, last)}, 0, api.OK},
		{api.MaxNodes, []api.Edge{edge(last, last+1)}, 0, api.ErrGraph},
		{1, many(api.MaxEdges), 0, api.OK},
		{1, many(api.MaxEdges + 1), -1, api.ErrGraph},
		{1, append(many(api.MaxEdges), edge(5, 5)), -1, api.ErrGraph},
		{0, []api.Edge{edge(0, 1)}, -1, api.ErrGraph},
		{2, []api.Edge{edge(0, 1), edge(0, 1), edge(1, 1)}, 0, api.OK},
		{2, []api.Edge{edge(2, 0)}, 0, api.ErrGraph},
		{2, []api.Edge{edge(0, 1), edge(1, 2), edge(-1, 0)}, 1, api.ErrGraph},
		{2, []api.Edge{edge(0, 1), edge(1, 0), edge(-1, 0)}, 2, api.ErrGraph},
		{2, []api.Edge{edge(0, 1), edge(1, -1)}, 1, api.ErrGraph},
		{2, []api.Edge{edge(math.MinInt, math.MaxInt)}, 0, api.ErrGraph},
	} {
		if at, e := Check(c.n, c.l); at != c.at || e != c.e {
			t.Errorf("Check(%d, %v): %d, %d", c.n, c.l, at, e)
		}
		if g := New(c.n, c.l); (g != nil) != (c.e == api.OK) {
			t.Errorf("New(%d, %v): %v", c.n, c.l, g)
		}
	}
}

func TestP3_2Example(t *testing.T) {
	g := New(3, []api.Edge{edge(0, 1), edge(0, 1), edge(1, 2)})
	if !slices.Equal(g.Out(0), []int{0, 1}) || !slices.Equal(g.Levels(0), []int{0, 1, 2}) {
		t.Error(g.Out(0), g.Levels(0))
	}
	if !slices.Equal(g.In(1), []int{0, 1}) || g.Degree(0, false) != 2 || g.Degree(0, true) != 0 || g.Degree(2, true) != 1 {
		t.Error(g.In(1), g.Degree(0, false), g.Degree(0, true), g.Degree(2, true))
	}
	rows, places := g.Rows()
	if !slices.Equal(rows, []int{0, 2, 3, 3}) || !slices.Equal(places, []int{0, 1, 2}) {
		t.Error(rows, places)
	}
}

// where are the places of the edges that are as asked.
func where(l []api.Edge, is func(api.Edge) bool) []int {
	var out []int
	for i, e := range l {
		if is(e) {
			out = append(out, i)
		}
	}
	return out
}

func TestP3_2NodesAndEdges(t *testing.T) {
	eachGraph(func(n int, l []api.Edge) {
		g := New(n, l)
		if g.N() != n || g.M() != len(l) {
			t.Fatalf("%d, %v: %d, %d", n, l, g.N(), g.M())
		}
		for i, want := range l {
			if e, ok := g.Edge(i); !ok || e != want {
				t.Fatalf("%v: Edge(%d): %v, %v", l, i, e, ok)
			}
		}
		for v := range n {
			out := where(l, func(e api.Edge) bool { return e.From == v })
			in := where(l, func(e api.Edge) bool { return e.To == v })
			if !slices.Equal(g.Out(v), out) || !slices.Equal(g.In(v), in) || g.Degree(v, false) != len(out) || g.Degree(v, true) != len(in) {
				t.Fatalf("%v: at %d: %v, %v", l, v, g.Out(v), g.In(v))
			}
			for w := range n {
				between := where(l, func(e api.Edge) bool { return e == edge(v, w) })
				if !slices.Equal(g.Between(v, w), between) {
					t.Fatalf("%v: Between(%d, %d): %v", l, v, w, g.Between(v, w))
				}
			}
		}
	})
}

func TestP3_2Rows(t *testing.T) {
	eachGraph(func(n int, l []api.Edge) {
		g := New(n, l)
		rows, places := g.Rows()
		if len(rows) != n+1 || rows[0] != 0 || rows[n] != len(l) || len(places) != len(l) {
			t.Fatalf("%v: %v, %v", l, rows, places)
		}
		for v := range n {
			if !slices.Equal(places[rows[v]:rows[v+1]], g.Out(v)) {
				t.Fatalf("%v: %v, %v", l, rows, places)
			}
		}
	})
}

func TestP3_2NoNodeAndNoEdge(t *testing.T) {
	g := New(2, []api.Edge{edge(0, 1), edge(1, 1)})
	for _, v := range []int{-1, 2, math.MinInt, math.MaxInt} {
		if len(g.Out(v)) != 0 || len(g.In(v)) != 0 || g.Degree(v, false) != 0 || g.Degree(v, true) != 0 {
			t.Errorf("node %d: %v, %v", v, g.Out(v), g.In(v))
		}
		if len(g.Between(v, 1)) != 0 || len(g.Between(0, v)) != 0 || len(g.Between(v, v)) != 0 {
			t.Errorf("between %d", v)
		}
		if e, ok := g.Edge(v); ok || e != edge(0, 0) {
			t.Errorf("edge %d: %v", v, e)
		}
	}
	if rows, places := New(2, nil).Rows(); !slices.Equal(rows, []int{0, 0, 0}) || len(places) != 0 {
		t.Error(rows, places)
	}
}

func TestP3_3Turned(t *testing.T) {
	eachGraph(func(n int, l []api.Edge) {
		g := New(n, l).Turned()
		if g.N() != n || g.M() != len(l) {
			t.Fatalf("%v: %d, %d", l, g.N(), g.M())
		}
		for i, e := range l {
			if got, ok := g.Edge(i); !ok || got != edge(e.To, e.From) {
				t.Fatalf("%v: %d: %v", l, i, got)
			}
			if !slices.Contains(g.Between(e.To, e.From), i) {
				t.Fatalf("%v: %d is not found", l, i)
			}
		}
	})
}

func TestP3_4EachEdgeOnce(t *testing.T) {
	eachGraph(func(n int, l []api.Edge) {
		g := New(n, l)
		var out, in, all []int
		for v := range n {
			out, in = append(out, g.Out(v)...), append(in, g.In(v)...)
		}
		for i := range l {
			all = append(all, i)
		}
		slices.Sort(out)
		slices.Sort(in)
		if !slices.Equal(out, all) || !slices.Equal(in, all) {
			t.Fatalf("%v: %v, %v", l, out, in)
		}
	})
}

func TestP3_5TurnedOfTurned(t *testing.T) {
	eachGraph(func(n int, l []api.Edge) {
		g := New(n, l)
		turned := g.Turned()
		again := turned.Turned()
		for v := range n {
			if !slices.Equal(turned.Out(v), g.In(v)) || !slices.Equal(turned.In(v), g.Out(v)) {
				t.Fatalf("%v: at %d", l, v)
			}
		}
		for i := range l {
			if e, _ := again.Edge(i); e != l[i] || again.N() != n || again.M() != len(l) {
				t.Fatalf("%v: %v", l, e)
			}
		}
	})
}

func TestP3_8Distinct(t *testing.T) {
	for _, c := range []struct{ l, want []api.Edge }{
		{nil, nil},
		{[]api.Edge{}, nil},
		{[]api.Edge{edge(1, 1)}, nil},
		{[]api.Edge{edge(5, 5), edge(0, 1), edge(5, 5)}, []api.Edge{edge(0, 1)}},
		{[]api.Edge{edge(2, 1), edge(0, 1), edge(2, 1), edge(1, 2), edge(0, 1), edge(2, 1)}, []api.Edge{edge(2, 1), edge(0, 1), edge(1, 2)}},
		{[]api.Edge{edge(-3, math.MaxInt), edge(99, -3), edge(-3, math.MaxInt)}, []api.Edge{edge(-3, math.MaxInt), edge(99, -3)}},
	} {
		if got := Distinct(c.l); !slices.Equal(got, c.want) {
			t.Errorf("Distinct(%v): %v", c.l, got)
		}
	}
	var long, want []api.Edge // more than a graph may have
	for i := range 200 {
		long = append(long, edge(i%100, i%100+1))
	}
	want = append(want, long[:100]...)
	if got := Distinct(long); !slices.Equal(got, want) {
		t.Error(got)
	}
}

func TestP1NilGraph(t *testing.T) {
	var g *Graph
	rows, places := g.Rows()
	e, ok := g.Edge(0)
	if g.N() != 0 || g.M() != 0 || ok || e != edge(0, 0) || rows != nil || places != nil || g.Turned() != nil {
		t.Error(g.N(), g.M(), e, ok, rows, places, g.Turned())
	}
	if g.Out(0) != nil || g.In(0) != nil || g.Degree(0, true) != 0 || g.Degree(0, false) != 0 || g.Between(0, 0) != nil {
		t.Error(g.Out(0), g.In(0), g.Degree(0, true), g.Between(0, 0))
	}
	if g.Levels(0) != nil || g.Joined() != nil || g.Reaches() != nil {
		t.Error(g.Levels(0), g.Joined(), g.Reaches())
	}
}
