package column

import (
	"math"
	"slices"
	"strings"
	"testing"

	"reticule/api"
)

// full is a table of as many columns as there may be, of all sides and kinds.
func full(t *testing.T) *Table {
	t.Helper()
	c := New(api.MaxNodes, api.MaxEdges)
	for i := range api.MaxNames {
		k := api.Key{Name: strings.Repeat("n", 1+i/3), Side: api.Side(1 + i%3)}
		want(t, api.OK, c.Declare(k, api.Kind(1+i/2%2)))
		for j := range c.Len(k.Side) {
			w := api.Word(i*j) % 2
			if c.KindOf(k) == api.Int {
				w = api.Word(i-9) * math.MaxInt64 / api.Word(j+1)
			}
			want(t, api.OK, c.Set(k, j, w))
		}
	}
	return c
}

func encoded(t *testing.T, c *Table) []byte {
	t.Helper()
	b, e := Encode(c)
	want(t, api.OK, e)
	return b
}

func TestP4_6Encode(t *testing.T) {
	if b := encoded(t, New(3, 2)); !slices.Equal(b, []byte{0}) {
		t.Error(b)
	}
	if b, e := Encode(nil); e != api.ErrNil || len(b) != 0 {
		t.Error(b, e)
	}
	c := New(2, 1)
	want(t, api.OK, c.Declare(ofNode("ab"), api.Bool))
	want(t, api.OK, c.Declare(scalar("b7"), api.Int))
	want(t, api.OK, c.Declare(ofEdge("a"), api.Int))
	want(t, api.OK, c.Set(ofNode("ab"), 1, 1))
	want(t, api.OK, c.Set(scalar("b7"), 0, -2))
	want(t, api.OK, c.Set(ofEdge("a"), 0, 0x0102030405060708))
	wantBytes := []byte{
		3,
		1, 1, 2, 'b', '7', 255, 255, 255, 255, 255, 255, 255, 254,
		2, 2, 2, 'a', 'b', 0, 0, 0, 0, 0, 0, 0, 0, 0, 0, 0, 0, 0, 0, 0, 1,
		3, 1, 1, 'a', 1, 2, 3, 4, 5, 6, 7, 8,
	}
	if b := encoded(t, c); !slices.Equal(b, wantBytes) {
		t.Error(b)
	}
}

func TestP4_6DecodeTakesEncodeBack(t *testing.T) {
	noEdges := New(1, 0)
	want(t, api.OK, noEdges.Declare(ofEdge("e"), api.Bool))
	for _, c := range []*Table{New(1, 0), New(api.MaxNodes, api.MaxEdges), table(t), noEdges, full(t)} {
		b := encoded(t, c)
		got, e := Decode(c.Len(api.OfNode), c.Len(api.OfEdge), b)
		if e != api.OK || !got.Same(c) || !c.Same(got) {
			t.Fatalf("%v: %d", b, e)
		}
		wantWrong(t, c, append(slices.Clone(b), 0))
		for short := range b {
			wantWrong(t, c, b[:short])
		}
		again := encoded(t, got)
		if !slices.Equal(again, b) {
			t.Error(again, b)
		}
	}
}

// wantWrong tests that b is not Encode of columns of as many nodes and edges as c has.
func wantWrong(t *testing.T, c *Table, b []byte) {
	t.Helper()
	if got, e := Decode(c.Len(api.OfNode), c.Len(api.OfEdge), b); got != nil || e != api.ErrForm {
		t.Errorf("%v: %v, %d", b, got, e)
	}
}

// piece is a column of one value as bytes.
func piece(side, kind byte, name string, last byte) []byte {
	b := append([]byte{side, kind, byte(len(name))}, name...)
	return append(b, 0, 0, 0, 0, 0, 0, 0, last)
}

func TestP4_6DecodeWrong(t *testing.T) {
	c := New(1, 1)
	a, b := piece(1, 1, "a", 0), piece(1, 1, "b", 0)
	for _, bytes := range [][]byte{
		nil, {}, {1}, {255},
		slices.Concat([]byte{2}, b, a),
		slices.Concat([]byte{2}, a, a),
		slices.Concat([]byte{2}, piece(2, 1, "a", 0), b),
		slices.Concat([]byte{1}, a, b),
		slices.Concat([]byte{3}, a, b),
		slices.Concat([]byte{0}, a),
		slices.Concat([]byte{1}, piece(0, 1, "a", 0)),
		slices.Concat([]byte{1}, piece(4, 1, "a", 0)),
		slices.Concat([]byte{1}, piece(255, 1, "a", 0)),
		slices.Concat([]byte{1}, piece(1, 0, "a", 0)),
		slices.Concat([]byte{1}, piece(1, 3, "a", 0)),
		slices.Concat([]byte{1}, piece(1, 1, "", 0)),
		slices.Concat([]byte{1}, piece(1, 1, "7a", 0)),
		slices.Concat([]byte{1}, piece(1, 1, "aA", 0)),
		slices.Concat([]byte{1}, piece(1, 1, "abcdefghi", 0)),
		slices.Concat([]byte{1}, piece(1, 2, "a", 2)),
		slices.Concat([]byte{1}, []byte{1, 1, 255, 'a'}),
	} {
		wantWrong(t, c, bytes)
	}
	for _, right := range [][]byte{
		{0}, slices.Concat([]byte{2}, a, b), slices.Concat([]byte{1}, piece(1, 2, "a", 1)), slices.Concat([]byte{2}, b, piece(2, 1, "a", 0)),
	} {
		if _, e := Decode(1, 1, right); e != api.OK {
			t.Error(right, e)
		}
	}
}

func TestP4_6DecodeOfTooManyColumns(t *testing.T) {
	b := []byte{api.MaxNames + 1}
	for i := range api.MaxNames + 1 {
		b = append(b, piece(1, 1, string([]byte{'a', byte('a' + i)}), 0)...)
	}
	wantWrong(t, New(1, 0), b)
	if _, e := Decode(1, 0, append([]byte{api.MaxNames}, b[1:len(b)-13]...)); e != api.OK {
		t.Error(e)
	}
}

func TestP4_6DecodeOfOtherNodesAndEdges(t *testing.T) {
	c := table(t)
	b := encoded(t, c)
	for _, n := range [][2]int{{2, 2}, {4, 2}, {3, 1}, {3, 3}, {2, 3}, {0, 2}, {-1, 2}, {3, -1}, {api.MaxNodes + 1, 2}, {3, api.MaxEdges + 1}, {math.MinInt, math.MaxInt}} {
		if got, e := Decode(n[0], n[1], b); got != nil || e != api.ErrForm {
			t.Errorf("%v: %v, %d", n, got, e)
		}
	}
	for _, n := range [][2]int{{0, 0}, {1, -1}, {api.MaxNodes + 1, 0}, {1, api.MaxEdges + 1}} {
		if got, e := Decode(n[0], n[1], []byte{0}); got != nil || e != api.ErrForm {
			t.Errorf("%v: %v, %d", n, got, e)
		}
	}
}

// Whatever single byte is another one: what Decode takes, Encode tells again.
func TestP4_6DecodeTakesNothingElse(t *testing.T) {
	b := encoded(t, table(t))
	for i := range b {
		for v := range 256 {
			other := slices.Clone(b)
			other[i] = byte(v)
			got, e := Decode(3, 2, other)
			if e == api.OK && !slices.Equal(encoded(t, got), other) || e != api.OK && (e != api.ErrForm || got != nil) {
				t.Fatalf("%v: %v, %d", other, got, e)
			}
		}
	}
}
