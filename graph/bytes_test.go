package graph

import (
	"slices"
	"testing"

	"reticule/api"
)

func TestP3_7Encode(t *testing.T) {
	for _, c := range []struct {
		n    int
		l    []api.Edge
		want []byte
	}{
		{1, nil, []byte{1, 0}},
		{api.MaxNodes, nil, []byte{api.MaxNodes, 0}},
		{4, []api.Edge{edge(0, 3), edge(2, 1), edge(0, 3)}, []byte{4, 3, 0, 3, 2, 1, 0, 3}},
		{1, many(api.MaxEdges), append([]byte{1, api.MaxEdges}, make([]byte, 2*api.MaxEdges)...)},
	} {
		if b, e := Encode(c.n, c.l); e != api.OK || !slices.Equal(b, c.want) {
			t.Errorf("Encode(%d, %v): %v, %d", c.n, c.l, b, e)
		}
	}
	for _, c := range []struct {
		n int
		l []api.Edge
	}{
		{0, nil}, {-1, nil}, {256, nil}, {257, nil}, {api.MaxNodes + 1, nil},
		{1, many(api.MaxEdges + 1)}, {2, []api.Edge{edge(0, 2)}}, {2, []api.Edge{edge(-1, 0)}}, {2, []api.Edge{edge(256, 0)}},
	} {
		if b, e := Encode(c.n, c.l); e != api.ErrGraph || len(b) != 0 {
			t.Errorf("Encode(%d, %v): %v, %d", c.n, c.l, b, e)
		}
	}
}

func TestP3_7DecodeTakesEncodeBack(t *testing.T) {
	eachGraph(func(n int, l []api.Edge) {
		b, _ := Encode(n, l)
		if m, k, at, e := Decode(b); m != n || !slices.Equal(k, l) || at != 0 || e != api.OK {
			t.Fatalf("%v: %d, %v, %d, %d", b, m, k, at, e)
		}
		checkWrong(t, append(slices.Clone(b), 0), len(b))
		for short := range b {
			checkWrong(t, b[:short], short)
		}
	})
}

func checkWrong(t *testing.T, b []byte, want int) {
	t.Helper()
	if n, l, at, e := Decode(b); n != 0 || len(l) != 0 || at != want || e != api.ErrForm {
		t.Fatalf("Decode(%v): %d, %v, %d, %d, not %d", b, n, l, at, e, want)
	}
}

func TestP3_7DecodeTellsTheFirstWrongByte(t *testing.T) {
	for _, c := range []struct {
		b    []byte
		want int
	}{
		{nil, 0},
		{[]byte{}, 0},
		{[]byte{0}, 0},
		{[]byte{0, 0}, 0},
		{[]byte{api.MaxNodes + 1, 0}, 0},
		{[]byte{255}, 0},
		{[]byte{0, 255, 255}, 0},
		{[]byte{1}, 1},
		{[]byte{1, api.MaxEdges + 1}, 1},
		{append([]byte{1, api.MaxEdges + 1}, make([]byte, 2*api.MaxEdges+2)...), 1},
		{append([]byte{1, 255}, make([]byte, 2*255)...), 1},
		{[]byte{1, api.MaxEdges}, 2},
		{[]byte{2, 0, 0}, 2},
		{[]byte{2, 0, 9, 9}, 2},
		{[]byte{2, 1, 2}, 2},
		{[]byte{2, 1, 1, 2}, 3},
		{[]byte{2, 1, 2, 2, 7, 7}, 2},
		{[]byte{2, 1, 1, 1, 0}, 4},
		{[]byte{2, 1, 1, 1, 7, 7}, 4},
		{[]byte{2, 2, 1, 1, 0}, 5},
		{[]byte{2, 2, 1, 1, 2}, 4},
		{[]byte{2, 2, 1, 1, 0, 255}, 5},
	} {
		checkWrong(t, c.b, c.want)
	}
}

// What Decode takes, Encode tells again: nothing else is a graph's bytes.
func TestP3_7DecodeTakesNothingElse(t *testing.T) {
	var b [4]byte
	for first := range 16 {
		for second := range 4 {
			for third := range 16 {
				for fourth := range 16 {
					b = [4]byte{byte(first), byte(second), byte(third), byte(fourth)}
					n, l, at, e := Decode(b[:])
					again, _ := Encode(n, l)
					if e == api.OK && (at != 0 || !slices.Equal(again, b[:])) {
						t.Fatalf("%v: %d, %v, %d", b, n, l, at)
					}
				}
			}
		}
	}
}
