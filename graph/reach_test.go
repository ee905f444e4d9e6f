package graph

import (
	"math"
	"slices"
	"testing"

	"reticule/api"
)

const far = 99 // further than any node of a graph

// lengths are of each two nodes how many edges the shortest way of one edge or more has; far: there is none.
func lengths(n int, l []api.Edge) [][]int {
	d := make([][]int, n)
	for v := range d {
		d[v] = slices.Repeat([]int{far}, n)
	}
	for _, e := range l {
		d[e.From][e.To] = 1
	}
	for by := range n {
		for a := range n {
			for b := range n {
				d[a][b] = min(d[a][b], d[a][by]+d[by][b])
			}
		}
	}
	return d
}

func TestP3_3Levels(t *testing.T) {
	eachGraph(func(n int, l []api.Edge) {
		g, d := New(n, l), lengths(n, l)
		for root := range n {
			want := make([]int, n)
			for v := range n {
				switch {
				case v == root:
					want[v] = 0
				case d[root][v] >= far:
					want[v] = -1
				default:
					want[v] = d[root][v]
				}
			}
			if got := g.Levels(root); !slices.Equal(got, want) {
				t.Fatalf("%v: Levels(%d): %v, not %v", l, root, got, want)
			}
		}
	})
}

func TestP3_3LevelsOfNoRoot(t *testing.T) {
	g := New(3, []api.Edge{edge(0, 1), edge(1, 2)})
	for _, root := range []int{-1, 3, math.MinInt, math.MaxInt} {
		if got := g.Levels(root); !slices.Equal(got, []int{-1, -1, -1}) {
			t.Errorf("Levels(%d): %v", root, got)
		}
	}
}

func TestP3_6LevelsRiseByOneAtMost(t *testing.T) {
	eachGraph(func(n int, l []api.Edge) {
		g := New(n, l)
		for root := range n {
			levels := g.Levels(root)
			for _, e := range l {
				if levels[e.From] >= 0 && (levels[e.To] < 0 || levels[e.To] > levels[e.From]+1) {
					t.Fatalf("%v: Levels(%d): %v", l, root, levels)
				}
			}
		}
	})
}

func TestP3_7Joined(t *testing.T) {
	eachGraph(func(n int, l []api.Edge) {
		both := slices.Clone(l)
		for _, e := range l {
			both = append(both, edge(e.To, e.From))
		}
		d, want := lengths(n, both), make([]int, n)
		for v := range n {
			want[v] = v
			for w := range v {
				if d[v][w] < far {
					want[v] = w
					break
				}
			}
		}
		if got := New(n, l).Joined(); !slices.Equal(got, want) {
			t.Fatalf("%v: %v, not %v", l, got, want)
		}
	})
}

func TestP3_8Reaches(t *testing.T) {
	eachGraph(func(n int, l []api.Edge) {
		d, got := lengths(n, l), New(n, l).Reaches()
		if len(got) != n {
			t.Fatalf("%v: %v", l, got)
		}
		for v := range n {
			if len(got[v]) != n {
				t.Fatalf("%v: %v", l, got)
			}
			for w := range n {
				if got[v][w] != (d[v][w] < far) {
					t.Fatalf("%v: from %d to %d: %v", l, v, w, got[v][w])
				}
			}
		}
	})
}
