package parts

import (
	"math"
	"slices"
	"testing"

	"reticule/api"
)

// The calls have the signatures that the chapter lists.
var (
	_ func(nodes, workers int, by []int) *Parts = New
	_ func(*Parts, int) int                     = (*Parts).Of
	_ func(*Parts, int) []int                   = (*Parts).Members
	_ func(p *Parts, w int, k uint64) []int     = (*Parts).Order
	_ func(*Parts) int                          = (*Parts).Workers
	_ func(*Parts) int                          = (*Parts).Nodes
	_ func(*Parts, []api.Edge) int              = (*Parts).Cut
	_ func(nodes, workers int, k uint64) []int  = Spread
	_ func(*Parts) bool                         = (*Parts).Even
)

func edge(from, to int) api.Edge { return api.Edge{From: from, To: to} }

// odd are numbers of nodes, workers and orders at the edges, and far off.
func odd() []int {
	return []int{math.MinInt, -1000, -13, -12, -5, -4, -1, 0, 1, 2, 3, 4, 5, 11, 12, 13, 16, 17, 1000, math.MaxInt}
}

func mayBeSoMany(nodes, workers int) bool {
	return nodes >= 1 && nodes <= 12 && workers >= 1 && workers <= 4
}

// bys are lists of numbers of workers: too short ones, too long ones, with numbers of all kinds.
func bys() [][]int {
	out := [][]int{nil, {}, {3}, {-1}, {1, 1, 1, 1, 1, 1, 1, 1, 1, 1, 1, 1}, odd(), {5, 4, 3, 2, 1, 0, -1, -2, -3, -4, -5, -6, -7, -8}}
	for seed := range 40 {
		var by []int
		for i := range seed % 15 {
			by = append(by, (i*i*7+seed*31+i*seed*3)%23-9)
		}
		out = append(out, by)
	}
	return out
}

// workerOf counts on from a number's rest by steps until it comes to a worker.
func workerOf(v, workers int, by []int) int {
	if v >= len(by) {
		return 0
	}
	rest := by[v] % workers
	for rest < 0 {
		rest += workers
	}
	return rest
}

// each does f with parts of all numbers of nodes and workers that may be.
func each(f func(p *Parts, nodes, workers int, by []int)) {
	for nodes := 1; nodes <= api.MaxNodes; nodes++ {
		for workers := 1; workers <= api.MaxWorkers; workers++ {
			for _, by := range bys() {
				f(New(nodes, workers, by), nodes, workers, by)
			}
		}
	}
}

// factorial is how many orders there are.
func factorial(n int) uint64 {
	many := uint64(1)
	for i := 2; i <= n; i++ {
		many *= uint64(i)
	}
	return many
}

// picked are the things of l in the order whose number is k: at each place that one is picked ahead of which so many stand as the orders of the rest fit into k.
func picked(l []int, k uint64) []int {
	rest, out := slices.Clone(l), []int{}
	k %= factorial(len(l))
	for len(rest) > 0 {
		at := int(k / factorial(len(rest)-1))
		k %= factorial(len(rest) - 1)
		out = append(out, rest[at])
		rest = slices.Delete(rest, at, at+1)
	}
	return out
}

func count(n int) []int {
	var l []int
	for i := range n {
		l = append(l, i)
	}
	return l
}

func seeds() []uint64 {
	return []uint64{0, 1, 2, 3, 5, 6, 7, 23, 24, 25, 119, 120, 719, 720, 5041, 40320, 479001599, 479001600, 479001601, 1 << 32, 1 << 63, math.MaxUint64 - 1, math.MaxUint64}
}

func TestP5_1Example(t *testing.T) {
	p := New(4, 2, []int{0, 1, -1})
	if got := p.Members(1); !slices.Equal(got, []int{1, 2}) {
		t.Error(got)
	}
	if got := p.Members(0); !slices.Equal(got, []int{0, 3}) {
		t.Error(got)
	}
}

func TestP5_1New(t *testing.T) {
	for _, nodes := range odd() {
		for _, workers := range odd() {
			for _, by := range [][]int{nil, {1}, {0, 1, 2, 3}, odd()} {
				if p := New(nodes, workers, by); (p != nil) != mayBeSoMany(nodes, workers) {
					t.Errorf("New of %d nodes, %d workers, %v: %v", nodes, workers, by, p)
				}
			}
		}
	}
}

func TestP5_1HowMany(t *testing.T) {
	each(func(p *Parts, nodes, workers int, by []int) {
		if p.Nodes() != nodes || p.Workers() != workers {
			t.Errorf("%d nodes, %d workers: %d, %d", nodes, workers, p.Nodes(), p.Workers())
		}
	})
}

func TestP5_1Of(t *testing.T) {
	each(func(p *Parts, nodes, workers int, by []int) {
		for _, v := range append(odd(), count(20)...) {
			want := -1
			if 0 <= v && v < nodes {
				want = workerOf(v, workers, by)
			}
			if got := p.Of(v); got != want {
				t.Errorf("%d nodes, %d workers by %v: Of(%d) is %d, not %d", nodes, workers, by, v, got, want)
			}
		}
	})
}

func TestP5_1NumbersBelow0(t *testing.T) {
	for _, c := range []struct{ by, workers, want int }{
		{-1, 4, 3}, {-4, 4, 0}, {-5, 4, 3}, {-1, 1, 0}, {-1, 3, 2}, {-3, 3, 0}, {-2, 3, 1}, {math.MinInt, 4, 0}, {math.MinInt, 3, 1}, {math.MaxInt, 4, 3}, {math.MaxInt, 3, 1},
	} {
		if got := New(1, c.workers, []int{c.by}).Of(0); got != c.want {
			t.Errorf("%d modulo %d is %d, not %d", c.by, c.workers, got, c.want)
		}
	}
}

func TestP5_1Members(t *testing.T) {
	each(func(p *Parts, nodes, workers int, by []int) {
		for _, w := range append(odd(), count(6)...) {
			var want []int
			for v := range nodes {
				if workerOf(v, workers, by) == w {
					want = append(want, v)
				}
			}
			if got := p.Members(w); !slices.Equal(got, want) {
				t.Errorf("%d nodes, %d workers by %v: Members(%d) are %v, not %v", nodes, workers, by, w, got, want)
			}
		}
	})
}

func TestP5_1Order(t *testing.T) {
	p := New(5, 3, []int{2, 0, 1})
	for k, want := range [][]int{{1, 3, 4}, {1, 4, 3}, {3, 1, 4}, {3, 4, 1}, {4, 1, 3}, {4, 3, 1}, {1, 3, 4}, {1, 4, 3}} {
		if got := p.Order(0, uint64(k)); !slices.Equal(got, want) {
			t.Errorf("Order(0, %d) is %v, not %v", k, got, want)
		}
	}
	each(func(p *Parts, nodes, workers int, by []int) {
		for _, w := range odd() {
			for _, k := range seeds() {
				if got, want := p.Order(w, k), picked(p.Members(w), k); !slices.Equal(got, want) {
					t.Errorf("%d nodes, %d workers by %v: Order(%d, %d) is %v, not %v", nodes, workers, by, w, k, got, want)
				}
			}
		}
	})
}

func TestP5_1Cut(t *testing.T) {
	p := New(5, 3, []int{0, 1, 2, 0, 1}) // whose nodes 0 and 3, and 1 and 4, are one worker's
	for _, c := range []struct {
		l    []api.Edge
		want int
	}{
		{nil, 0}, {[]api.Edge{}, 0},
		{[]api.Edge{edge(0, 0), edge(0, 3), edge(3, 0), edge(4, 1), edge(2, 2)}, 0},
		{[]api.Edge{edge(0, 1)}, 1}, {[]api.Edge{edge(1, 0)}, 1},
		{[]api.Edge{edge(0, 1), edge(0, 1), edge(1, 0)}, 3},
		{[]api.Edge{edge(3, 4), edge(3, 3), edge(2, 4), edge(0, 3)}, 2},
		{[]api.Edge{edge(0, 5), edge(5, 0), edge(-1, 1), edge(1, -1), edge(-1, -1), edge(5, -1), edge(9, 17)}, 0},
		{[]api.Edge{edge(math.MinInt, 1), edge(1, math.MaxInt), edge(math.MaxInt, math.MinInt)}, 0},
		{[]api.Edge{edge(1, 5), edge(2, 1), edge(-1, 2), edge(2, 0)}, 2},
		{slices.Repeat([]api.Edge{edge(0, 1)}, 1000), 1000},
	} {
		if got := p.Cut(c.l); got != c.want {
			t.Errorf("Cut of %v is %d, not %d", c.l, got, c.want)
		}
	}
	each(func(p *Parts, nodes, workers int, by []int) {
		for from := -1; from <= nodes; from++ {
			for to := -1; to <= nodes; to++ {
				want := 0
				if from >= 0 && to >= 0 && from < nodes && to < nodes && workerOf(from, workers, by) != workerOf(to, workers, by) {
					want = 1
				}
				if got := p.Cut([]api.Edge{edge(from, to)}); got != want {
					t.Errorf("%d nodes, %d workers by %v: Cut of %d to %d is %d", nodes, workers, by, from, to, got)
				}
			}
		}
	})
}

func TestP5_2EachNodeIsOneWorkers(t *testing.T) {
	each(func(p *Parts, nodes, workers int, by []int) {
		var all []int
		for w := range workers {
			for _, v := range p.Members(w) {
				if p.Of(v) != w {
					t.Errorf("%d is a member of %d, but %d's", v, w, p.Of(v))
				}
				all = append(all, v)
			}
		}
		slices.Sort(all)
		if !slices.Equal(all, count(nodes)) {
			t.Errorf("%d nodes, %d workers by %v: %v", nodes, workers, by, all)
		}
	})
}

func TestP5_3OrderAreTheMembers(t *testing.T) {
	each(func(p *Parts, nodes, workers int, by []int) {
		for w := range workers {
			for _, k := range seeds() {
				got := p.Order(w, k)
				slices.Sort(got)
				if !slices.Equal(got, p.Members(w)) {
					t.Errorf("%d nodes, %d workers by %v: Order(%d, %d) are %v", nodes, workers, by, w, k, got)
				}
			}
		}
	})
}

func TestP5_4Spread(t *testing.T) {
	for _, c := range []struct {
		nodes, workers int
		k              uint64
		want           []int
	}{
		{1, 1, 0, []int{0}}, {1, 4, 9, []int{0}}, {4, 2, 0, []int{0, 1, 0, 1}}, {4, 1, 3, []int{0, 0, 0, 0}},
		{3, 3, 0, []int{0, 1, 2}}, {3, 3, 1, []int{0, 2, 1}}, {3, 3, 3, []int{2, 0, 1}}, {3, 3, 4, []int{1, 2, 0}}, {3, 2, 4, []int{1, 0, 0}}, {3, 3, 6, []int{0, 1, 2}},
		{2, 4, 1, []int{1, 0}},
	} {
		if got := Spread(c.nodes, c.workers, c.k); !slices.Equal(got, c.want) {
			t.Errorf("Spread(%d, %d, %d) is %v, not %v", c.nodes, c.workers, c.k, got, c.want)
		}
	}
	for _, nodes := range append(odd(), count(13)...) {
		for _, workers := range odd() {
			for _, k := range seeds() {
				got := Spread(nodes, workers, k)
				if !mayBeSoMany(nodes, workers) {
					if len(got) != 0 {
						t.Errorf("Spread(%d, %d, %d) is %v", nodes, workers, k, got)
					}
					continue
				}
				want := make([]int, nodes)
				for i, v := range picked(count(nodes), k) {
					want[v] = i % workers
				}
				if !slices.Equal(got, want) {
					t.Errorf("Spread(%d, %d, %d) is %v, not %v", nodes, workers, k, got, want)
				}
				if !New(nodes, workers, got).Even() {
					t.Errorf("Spread(%d, %d, %d) is not even", nodes, workers, k)
				}
			}
		}
	}
}

func TestP5_4Even(t *testing.T) {
	for _, c := range []struct {
		nodes, workers int
		by             []int
		want           bool
	}{
		{1, 1, nil, true}, {12, 1, nil, true}, {1, 4, nil, true}, {2, 4, nil, false}, {2, 4, []int{0, 3}, true}, {2, 4, []int{3, 3}, false},
		{3, 2, []int{0, 1, 1}, true}, {4, 2, []int{0, 1, 1, 1}, false}, {4, 2, []int{0, 0, 1, 0}, false}, {4, 2, []int{1, 0, 0, 1}, true},
		{3, 3, []int{0, 1, 1}, false}, {3, 3, []int{1, 2, 2}, false}, {3, 3, []int{1, 1, 1}, false}, {3, 3, []int{0, 1, 2}, true},
		{4, 3, []int{0, 0, 1, 1}, false}, {4, 3, []int{1, 1, 2, 2}, false}, {4, 3, []int{2, 2, 0, 1}, true}, {3, 1, []int{0, 1, 2}, true},
		{6, 3, []int{0, 1, 1, 2, 2, 2}, false}, {6, 3, []int{2, 1, 1, 0, 0, 0}, false}, {8, 4, []int{0, 0, 1, 1, 2, 2, 2, 3}, false}, {8, 4, []int{0, 0, 1, 1, 2, 2, 3, 3}, true}, {9, 4, []int{0, 0, 1, 1, 2, 2, 3, 3, 1}, true},
		{12, 4, []int{0, 1, 2, 3, 0, 1, 2, 3, 0, 1, 2, 3}, true},
	} {
		if got := New(c.nodes, c.workers, c.by).Even(); got != c.want {
			t.Errorf("%d nodes, %d workers by %v: %v", c.nodes, c.workers, c.by, got)
		}
	}
	each(func(p *Parts, nodes, workers int, by []int) {
		want := true
		for a := range workers {
			for b := range workers {
				want = want && len(p.Members(a)) < len(p.Members(b))+2
			}
		}
		if got := p.Even(); got != want {
			t.Errorf("%d nodes, %d workers by %v: %v", nodes, workers, by, got)
		}
	})
}

// A nil Parts has no nodes: of each number Of tells that it is none.
func TestP1NilParts(t *testing.T) {
	var p *Parts
	for _, i := range odd() {
		if p.Of(i) != -1 || len(p.Members(i)) != 0 || len(p.Order(i, uint64(i))) != 0 || p.Cut([]api.Edge{edge(i, 0), edge(0, i)}) != 0 {
			t.Error(i)
		}
	}
	if p.Workers() != 0 || p.Nodes() != 0 || p.Cut(nil) != 0 || p.Even() {
		t.Error("a nil Parts has something")
	}
}
