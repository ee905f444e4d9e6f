package column

import (
	"math"
	"slices"
	"strings"
	"testing"

	"reticule/api"
)

// The calls have the signatures that the chapter lists.
var (
	_ func(nodes, edges int) *Table                        = New
	_ func(*Table, api.Key, api.Kind) api.Errno            = (*Table).Declare
	_ func(*Table, api.Key, int, api.Word) api.Errno       = (*Table).Set
	_ func(*Table, api.Key, api.Word) api.Errno            = (*Table).Fill
	_ func(*Table, api.Key, []api.Word) api.Errno          = (*Table).Load
	_ func(*Table, api.Key, int) (api.Word, api.Errno)     = (*Table).Get
	_ func(*Table, api.Key) []api.Word                     = (*Table).List
	_ func(*Table, api.Key) api.Kind                       = (*Table).KindOf
	_ func(*Table) []api.Key                               = (*Table).Keys
	_ func(*Table, api.Side) int                           = (*Table).Len
	_ func(t, o *Table) bool                               = (*Table).Same
	_ func(*Table) *Table                                  = (*Table).Fork
	_ func(*Table) ([]byte, api.Errno)                     = Encode
	_ func(nodes, edges int, b []byte) (*Table, api.Errno) = Decode
)

func scalar(name string) api.Key { return api.Key{Name: name, Side: api.Scalar} }
func ofNode(name string) api.Key { return api.Key{Name: name, Side: api.OfNode} }
func ofEdge(name string) api.Key { return api.Key{Name: name, Side: api.OfEdge} }

// table is one of 3 nodes and 2 edges with the name x on all sides, of Int, and y, of Bool.
func table(t *testing.T) *Table {
	t.Helper()
	c := New(3, 2)
	for _, side := range []api.Side{api.OfEdge, api.Scalar, api.OfNode} {
		want(t, api.OK, c.Declare(api.Key{Name: "y", Side: side}, api.Bool))
		want(t, api.OK, c.Declare(api.Key{Name: "x", Side: side}, api.Int))
	}
	return c
}

func want(t *testing.T, want, got api.Errno) {
	t.Helper()
	if got != want {
		t.Errorf("%d, not %d", got, want)
	}
}

func wantList(t *testing.T, c *Table, k api.Key, l ...api.Word) {
	t.Helper()
	if got := c.List(k); !slices.Equal(got, l) {
		t.Errorf("%v: %v, not %v", k, got, l)
	}
}

func TestP4_1New(t *testing.T) {
	for _, c := range []struct {
		nodes, edges int
		may          bool
	}{
		{0, 0, false}, {-1, 0, false}, {1, -1, false}, {1, 0, true}, {api.MaxNodes, api.MaxEdges, true},
		{api.MaxNodes + 1, 0, false}, {1, api.MaxEdges + 1, false}, {math.MinInt, 0, false}, {1, math.MaxInt, false},
	} {
		if got := New(c.nodes, c.edges); (got != nil) != c.may {
			t.Errorf("New(%d, %d): %v", c.nodes, c.edges, got)
		}
	}
	if c := New(3, 2); len(c.Keys()) != 0 {
		t.Error(c.Keys())
	}
}

func TestP4_1Names(t *testing.T) {
	longest := strings.Repeat("z", api.MaxName)
	for _, name := range []string{"a", "z", "a0", "a9", "q1w2e3", longest, "z9999999"} {
		want(t, api.OK, New(1, 0).Declare(scalar(name), api.Int))
	}
	for _, name := range []string{
		"", longest + "z", "0", "9a", "A", "aB", "a b", " a", "a ", "a_", "-a", "a-", "`", "{", "a`", "a{", "a/", "a:", "a\x00", "\xff", "a\xff", "ä", "aä", strings.Repeat("a", 300),
	} {
		c := New(1, 0)
		want(t, api.ErrForm, c.Declare(scalar(name), api.Int))
		if len(c.Keys()) != 0 {
			t.Errorf("%q is there", name)
		}
	}
}

func TestP4_1Declare(t *testing.T) {
	c := New(3, 2)
	for _, k := range []api.Key{scalar("x"), ofNode("x"), ofEdge("x")} {
		want(t, api.OK, c.Declare(k, api.Bool))
	}
	wantList(t, c, scalar("x"), 0)
	wantList(t, c, ofNode("x"), 0, 0, 0)
	wantList(t, c, ofEdge("x"), 0, 0)
	want(t, api.ErrExist, c.Declare(ofNode("x"), api.Int))
	if c.KindOf(ofNode("x")) != api.Bool {
		t.Error("the kind is another one")
	}
	for _, side := range []api.Side{api.NoSide, api.OfEdge + 1, 255} {
		want(t, api.ErrRange, c.Declare(api.Key{Name: "y", Side: side}, api.Int))
	}
	for _, kind := range []api.Kind{api.NoKind, api.Bool + 1, 255} {
		want(t, api.ErrRange, c.Declare(scalar("y"), kind))
	}
	if len(c.Keys()) != 3 {
		t.Error(c.Keys())
	}
}

func TestP2DeclareTellsTheFirstError(t *testing.T) {
	var none *Table
	c := New(1, 0)
	for i := range api.MaxNames {
		want(t, api.OK, c.Declare(api.Key{Name: "a" + strings.Repeat("b", i/3), Side: api.Side(1 + i%3)}, api.Int))
	}
	want(t, api.ErrNil, none.Declare(api.Key{}, api.NoKind))
	want(t, api.ErrForm, c.Declare(api.Key{}, api.NoKind))
	want(t, api.ErrForm, c.Declare(scalar("A"), api.Int))
	want(t, api.ErrRange, c.Declare(scalar("a"), api.NoKind))
	want(t, api.ErrRange, c.Declare(api.Key{Name: "new"}, api.Int))
	want(t, api.ErrExist, c.Declare(scalar("a"), api.Int))
	want(t, api.ErrSpace, c.Declare(scalar("new"), api.Int))
	if len(c.Keys()) != api.MaxNames || c.KindOf(scalar("new")) != api.NoKind {
		t.Error(c.Keys())
	}
}

func TestP4_1Set(t *testing.T) {
	var none *Table
	c := table(t)
	want(t, api.ErrNil, none.Set(scalar("x"), 0, 0))
	for _, k := range []api.Key{scalar("z"), {Name: "x"}, {}, {Name: "x", Side: 9}, scalar("X")} {
		want(t, api.ErrNoent, c.Set(k, -1, 9))
	}
	for _, i := range []int{-1, 3, math.MinInt, math.MaxInt} {
		want(t, api.ErrRange, c.Set(ofNode("y"), i, 9))
		want(t, api.ErrRange, c.Set(ofEdge("x"), i, 1))
		want(t, api.ErrRange, c.Set(scalar("x"), i, 1))
	}
	want(t, api.ErrRange, c.Set(scalar("x"), 1, 1))
	want(t, api.ErrRange, c.Set(ofEdge("x"), 2, 1))
	for _, w := range []api.Word{2, -1, 256, math.MinInt64, math.MaxInt64, 1 << 32} {
		want(t, api.ErrForm, c.Set(ofNode("y"), 0, w))
		want(t, api.OK, c.Set(ofNode("x"), 0, w))
		wantList(t, c, ofNode("x"), w, 0, 0)
	}
	wantList(t, c, ofNode("y"), 0, 0, 0)
	want(t, api.OK, c.Set(ofNode("y"), 2, 1))
	wantList(t, c, ofNode("y"), 0, 0, 1)
	want(t, api.OK, c.Set(ofNode("y"), 2, 0))
	wantList(t, c, ofNode("y"), 0, 0, 0)
}

func TestP4_1Fill(t *testing.T) {
	var none *Table
	c := table(t)
	want(t, api.ErrNil, none.Fill(scalar("x"), 2))
	want(t, api.ErrNoent, c.Fill(scalar("z"), 2))
	want(t, api.ErrForm, c.Fill(ofNode("y"), 2))
	want(t, api.ErrForm, c.Fill(ofNode("y"), -1))
	wantList(t, c, ofNode("y"), 0, 0, 0)
	want(t, api.OK, c.Fill(ofNode("y"), 1))
	want(t, api.OK, c.Fill(ofEdge("x"), -7))
	wantList(t, c, ofNode("y"), 1, 1, 1)
	wantList(t, c, ofEdge("x"), -7, -7)
	wantList(t, c, ofNode("x"), 0, 0, 0)
	empty := New(1, 0)
	want(t, api.OK, empty.Declare(ofEdge("y"), api.Bool))
	want(t, api.ErrForm, empty.Fill(ofEdge("y"), 2))
	want(t, api.OK, empty.Fill(ofEdge("y"), 1))
	wantList(t, empty, ofEdge("y"))
}

func TestP4_1Load(t *testing.T) {
	var none *Table
	c := table(t)
	want(t, api.ErrNil, none.Load(scalar("x"), nil))
	want(t, api.ErrNoent, c.Load(scalar("z"), nil))
	for _, l := range [][]api.Word{nil, {}, {9, 9}, {1, 1}, {1, 1, 1, 1}} {
		want(t, api.ErrRange, c.Load(ofNode("y"), l))
	}
	for _, l := range [][]api.Word{{1, 1, 2}, {2, 1, 1}, {1, -1, 0}} {
		want(t, api.ErrForm, c.Load(ofNode("y"), l))
	}
	wantList(t, c, ofNode("y"), 0, 0, 0)
	want(t, api.OK, c.Load(ofNode("y"), []api.Word{1, 0, 1}))
	want(t, api.OK, c.Load(ofNode("x"), []api.Word{-5, math.MaxInt64, math.MinInt64}))
	wantList(t, c, ofNode("y"), 1, 0, 1)
	wantList(t, c, ofNode("x"), -5, math.MaxInt64, math.MinInt64)
	empty := New(1, 0)
	want(t, api.OK, empty.Declare(ofEdge("y"), api.Bool))
	want(t, api.OK, empty.Load(ofEdge("y"), nil))
	want(t, api.ErrRange, empty.Load(ofEdge("y"), []api.Word{1}))
}

func TestP4_2Get(t *testing.T) {
	var none *Table
	c := table(t)
	want(t, api.OK, c.Load(ofNode("x"), []api.Word{4, 5, 6}))
	for i, w := range []api.Word{4, 5, 6} {
		if got, e := c.Get(ofNode("x"), i); got != w || e != api.OK {
			t.Errorf("%d: %d, %d", i, got, e)
		}
	}
	wrong := func(e api.Errno, from *Table, k api.Key, i int) {
		t.Helper()
		if got, f := from.Get(k, i); got != 0 || f != e {
			t.Errorf("%v, %d: %d, %d", k, i, got, f)
		}
	}
	wrong(api.ErrNil, none, scalar("z"), -1)
	wrong(api.ErrNoent, c, scalar("z"), -1)
	wrong(api.ErrNoent, c, api.Key{Name: "x"}, 0)
	for _, i := range []int{-1, 3, math.MinInt, math.MaxInt} {
		wrong(api.ErrRange, c, ofNode("x"), i)
	}
	wrong(api.ErrRange, c, scalar("x"), 1)
	wrong(api.ErrRange, c, ofEdge("x"), 2)
}

func TestP4_2ListAndKindOf(t *testing.T) {
	c := table(t)
	for _, side := range []api.Side{api.Scalar, api.OfNode, api.OfEdge} {
		x, y := api.Key{Name: "x", Side: side}, api.Key{Name: "y", Side: side}
		if c.KindOf(x) != api.Int || c.KindOf(y) != api.Bool || len(c.List(x)) != c.Len(side) {
			t.Error(side, c.KindOf(x), c.KindOf(y), c.List(x))
		}
	}
	for _, k := range []api.Key{scalar("z"), {}, {Name: "x"}, {Name: "x", Side: 4}} {
		if c.KindOf(k) != api.NoKind || len(c.List(k)) != 0 {
			t.Error(k, c.KindOf(k), c.List(k))
		}
	}
}

func TestP4_2Keys(t *testing.T) {
	all := []api.Key{
		scalar("a"), scalar("a0"), scalar("aa"), scalar("b"), scalar("z"),
		ofNode("a"), ofNode("a9"), ofNode("ab"), ofNode("b"), ofNode("bb"),
		ofEdge("a"), ofEdge("abc"), ofEdge("c1"), ofEdge("cc"),
	}
	for turn := range all { // in whatever order they are declared
		c := New(2, 2)
		for i := range all {
			want(t, api.OK, c.Declare(all[(i*5+turn)%len(all)], api.Int))
		}
		if got := c.Keys(); !slices.Equal(got, all) {
			t.Fatalf("%v", got)
		}
	}
}

func TestP4_2Len(t *testing.T) {
	c := New(3, 2)
	for _, s := range []struct {
		side api.Side
		n    int
	}{{api.NoSide, 0}, {api.Scalar, 1}, {api.OfNode, 3}, {api.OfEdge, 2}, {4, 0}, {255, 0}} {
		if got := c.Len(s.side); got != s.n {
			t.Errorf("%d: %d", s.side, got)
		}
	}
	if New(1, 0).Len(api.OfEdge) != 0 {
		t.Error("no edges have values")
	}
}

func TestP4_2Same(t *testing.T) {
	c := table(t)
	if !c.Same(c) || !c.Same(table(t)) || !New(1, 0).Same(New(1, 0)) {
		t.Error("the same are others")
	}
	var none *Table
	if c.Same(nil) || none.Same(c) || none.Same(nil) || New(1, 0).Same(New(2, 0)) || New(1, 0).Same(New(1, 1)) {
		t.Error("nil, or other numbers of nodes and edges, are the same")
	}
	for _, change := range []func(*Table){
		func(o *Table) { o.Set(ofNode("x"), 2, 1) },
		func(o *Table) { o.Set(scalar("y"), 0, 1) },
		func(o *Table) { o.Fill(ofEdge("x"), 5) },
		func(o *Table) { o.Declare(scalar("z"), api.Int) },
	} {
		o := table(t)
		change(o)
		if c.Same(o) || o.Same(c) {
			t.Errorf("%v", o)
		}
	}
	ints, bools, others := New(2, 2), New(2, 2), New(2, 2)
	ints.Declare(ofNode("x"), api.Int)
	bools.Declare(ofNode("x"), api.Bool)
	others.Declare(ofEdge("x"), api.Int)
	if ints.Same(bools) || ints.Same(others) || others.Same(ints) {
		t.Error("other kinds, or keys, are the same")
	}
	noEdges, noColumn := New(1, 0), New(1, 0)
	noEdges.Declare(ofEdge("x"), api.Int)
	noColumn.Declare(ofEdge("y"), api.Int)
	if noEdges.Same(noColumn) {
		t.Error("other keys of no values are the same")
	}
}

// E1 and P4.3: a table is what a simple list of all values, done in the same way, is.
func TestP4_3NothingElseChanges(t *testing.T) {
	c := table(t)
	model := map[api.Key][]api.Word{}
	for _, k := range c.Keys() {
		model[k] = make([]api.Word, c.Len(k.Side))
	}
	keys := c.Keys()
	for step := range 600 {
		k := keys[step*7%len(keys)]
		i, w := step*5%5-1, api.Word(step*11%6-2)
		e := c.Set(k, i, w)
		right := i >= 0 && i < len(model[k]) && (k.Name == "x" || w == 0 || w == 1)
		if right != (e == api.OK) {
			t.Fatalf("Set(%v, %d, %d): %d", k, i, w, e)
		}
		if right {
			model[k][i] = w
		}
		for _, o := range keys {
			wantList(t, c, o, model[o]...)
			for j, v := range model[o] {
				if got, f := c.Get(o, j); got != v || f != api.OK {
					t.Fatalf("Get(%v, %d): %d, %d", o, j, got, f)
				}
			}
		}
	}
}

func TestP4_4ValuesFit(t *testing.T) {
	c := table(t)
	for w := api.Word(-3); w < 4; w++ {
		for _, k := range c.Keys() {
			c.Fill(k, w)
			c.Set(k, 0, w+1)
			c.Load(k, slices.Repeat([]api.Word{w - 1}, c.Len(k.Side)))
			for _, v := range c.List(k) {
				if c.KindOf(k) == api.Bool && v != 0 && v != 1 {
					t.Fatalf("%v: %d", k, v)
				}
			}
		}
	}
}

func TestP4_5OneNameOnTwoSides(t *testing.T) {
	c := New(2, 2)
	want(t, api.OK, c.Declare(scalar("x"), api.Int))
	want(t, api.OK, c.Declare(ofNode("x"), api.Bool))
	want(t, api.OK, c.Set(scalar("x"), 0, 7))
	wantList(t, c, scalar("x"), 7)
	wantList(t, c, ofNode("x"), 0, 0)
	want(t, api.OK, c.Fill(ofNode("x"), 1))
	wantList(t, c, scalar("x"), 7)
	if c.KindOf(scalar("x")) != api.Int || c.KindOf(ofNode("x")) != api.Bool {
		t.Error(c.Keys())
	}
}

func TestP4Fork(t *testing.T) {
	c := table(t)
	want(t, api.OK, c.Load(ofNode("x"), []api.Word{4, 5, 6}))
	f := c.Fork()
	if !f.Same(c) || !c.Same(f) {
		t.Fatal("the fork is another one")
	}
	want(t, api.OK, f.Set(ofNode("x"), 0, 9))
	want(t, api.OK, f.Fill(ofEdge("y"), 1))
	want(t, api.OK, f.Declare(scalar("new"), api.Int))
	wantList(t, c, ofNode("x"), 4, 5, 6)
	wantList(t, c, ofEdge("y"), 0, 0)
	if c.KindOf(scalar("new")) != api.NoKind {
		t.Error(c.Keys())
	}
	want(t, api.OK, c.Load(scalar("x"), []api.Word{3}))
	want(t, api.OK, c.Declare(scalar("old"), api.Int))
	wantList(t, f, scalar("x"), 0)
	wantList(t, f, ofNode("x"), 9, 5, 6)
	if f.KindOf(scalar("old")) != api.NoKind {
		t.Error(f.Keys())
	}
}

func TestP1NilTable(t *testing.T) {
	var c *Table
	if c.List(scalar("x")) != nil || c.KindOf(scalar("x")) != api.NoKind || c.Keys() != nil || c.Fork() != nil {
		t.Error(c.List(scalar("x")), c.KindOf(scalar("x")), c.Keys(), c.Fork())
	}
	for side := range api.Side(6) {
		if c.Len(side) != 0 {
			t.Error(side, c.Len(side))
		}
	}
}
