package den_test

import (
	"math"
	"slices"
	"strconv"
	"strings"
	"testing"

	"reticule/api"
	"reticule/column"
	"reticule/den"
	"reticule/graph"
	"reticule/num"
	"reticule/plain"
	"reticule/prog"
	"reticule/proof"
)

// world has three nodes, with edges 0 to 1, 2 to 0 twice, and from 1 to itself.
func world() plain.World {
	return plain.Of(3, "01", "20", "20", "11").
		With("s", api.Scalar, api.Int, 7).With("t", api.Scalar, api.Bool, 1).
		With("a", api.OfNode, api.Int, 10, 20, 30).With("b", api.OfNode, api.Int, 1, 2, 3).With("c", api.OfNode, api.Bool, 1, 0, 1).
		With("w", api.OfEdge, api.Int, 100, 200, 300, 400).With("d", api.OfEdge, api.Bool, 0, 1, 1, 0)
}

// but is a world, but that some of its nodes' columns are as a text tells them: a[1 2 3] b[4 5 6].
func but(t *testing.T, w plain.World, text string) plain.World {
	t.Helper()
	for _, one := range strings.SplitAfter(text, "]") {
		name, list, is := strings.Cut(strings.TrimSpace(one), "[")
		if !is {
			continue
		}
		var vals []api.Word
		for _, digits := range strings.Fields(strings.TrimSuffix(list, "]")) {
			n, err := strconv.ParseInt(digits, 10, 64)
			if err != nil {
				t.Fatal(err)
			}
			vals = append(vals, api.Word(n))
		}
		w = w.With(name, api.OfNode, w.Columns[api.Key{Name: name, Side: api.OfNode}].Kind, vals...)
	}
	return w
}

// acts are those of a region, and a program that has their expressions; there may be more than a program's region has.
func acts(t *testing.T, text string) (api.Program, []api.Act) {
	t.Helper()
	p := source(t, "(each "+strings.ReplaceAll(text, ";", ") (each ")+")")
	var l []api.Act
	for _, s := range p.Stmts {
		l = append(l, s.Acts...)
	}
	return p, l
}

// wantRegion asks for which columns are other ones behind acts over the world.
func wantRegion(t *testing.T, text, want string) {
	t.Helper()
	p, l := acts(t, text)
	c := world().Table()
	u, wrong := den.Region(p, l, world().Graph(), c)
	if wrong != api.OK || !u.Same(but(t, world(), want).Table()) {
		t.Errorf("%s: %s, %d, not %s", text, tell(u), wrong, want)
	}
	if !c.Same(world().Table()) {
		t.Errorf("%s: the columns changed: %s", text, tell(c))
	}
}

func TestP14_1PutIt(t *testing.T) {
	for text, want := range map[string]string{
		"(put a 5)": "a[5 5 5]", "(put a (id))": "a[0 1 2]", "(put a (+ (own a) (own b)))": "a[11 22 33]", "(put a s)": "a[7 7 7]", "(put a (deg in))": "a[2 2 0]", "(put a (count))": "a[3 3 3]",
		"(put a (id) (own c))": "a[0 20 2]", "(put a 5 (= (id) 1))": "a[10 5 30]", "(put a 5 true)": "a[5 5 5]", "(put a 5 false)": "", "(put a 5 (id))": "a[10 5 5]", "(put a 5 -1)": "a[5 5 5]",
		"(put c (not (own c)))": "c[0 1 0]", "(put c t)": "c[1 1 1]", "(put c (id) (< (id) 2))": "c[0 1 1]", "(put a (own a))": "",
		// What is read is as it was ahead of the region.
		"(put a (own b)) (put b (own a))":                       "a[1 2 3] b[10 20 30]",
		"(put c (not (own c))) (put a 0 (own c))":               "c[0 1 0] a[0 20 0]",
		"(put a 1) (put b (own a)) (put c (= (own a) (own b)))": "a[1 1 1] b[10 20 30] c[0 0 0]",
		// Acts come from the first one on, where they clash, too.
		"(put a (+ (own a) 1)) (put a (+ (own a) 2) (own c))": "a[12 21 32]",
		"(put a 2 (own c)) (put a 1)":                         "a[1 1 1]",
		"(put a 1);(put a 2);(put b (own a) (own c))":         "a[2 2 2] b[10 2 30]",
	} {
		wantRegion(t, text, want)
	}
}

func TestP14_1PushItAndPullIt(t *testing.T) {
	for text, want := range map[string]string{
		"(push a + out 1)": "a[12 22 30]", "(push a + in 1)": "a[11 21 32]", "(pull a + out 1)": "a[11 21 32]", "(pull a + in 1)": "a[12 22 30]",
		// Where an expression is: the node that acts, the edge, the other end.
		"(push a + out (id))": "a[14 21 30]", "(push a + in (id))": "a[11 21 30]", "(pull a + out (id))": "a[10 21 34]", "(pull a + in (id))": "a[10 22 30]",
		"(push a + out (farid))": "a[10 22 30]", "(push a + in (farid))": "a[10 21 34]", "(pull a + out (farid))": "a[11 21 30]", "(pull a + in (farid))": "a[14 21 30]",
		"(push a + out (via w))": "a[510 520 30]", "(push a + in (via w))": "a[110 420 530]", "(pull a + out (via w))": "a[110 420 530]", "(pull a + in (via w))": "a[510 520 30]",
		"(push a + out (own b))": "a[16 23 30]", "(pull a + in (far b))": "a[16 23 30]", "(push a + in (own b))": "a[12 22 32]", "(pull a + out (far b))": "a[12 22 32]",
		"(push a + out (deg out))": "a[14 22 30]", "(push a + in (deg in))": "a[12 22 34]",
		"(push a + out (+ (via w) (+ (* 10 (id)) (farid))))": "a[550 532 30]",
		// By each operation that takes in many.
		"(push a min out 15)": "a[10 15 30]", "(pull a min out (via w))": "", "(pull a max out (via w))": "a[100 400 300]", "(push a max out (own a))": "a[30 20 30]",
		"(push c or out true)": "c[1 1 1]", "(push c and out false)": "c[0 0 1]", "(pull c and out (via d))": "c[0 0 1]", "(pull c or in (far c))": "c[1 1 1]", "(push c and in (own c))": "c[0 0 1]",
		// With a condition of the node that acts.
		"(push a + out 1 (own c))": "a[12 21 30]", "(push a + in 1 (own c))": "a[10 20 32]", "(push a + out 1 (= (id) 2))": "a[12 20 30]", "(push a + out 1 false)": "", "(push a + in 1 (id))": "a[11 21 30]", "(push a + out 1 5)": "a[12 22 30]",
		// What is read is as it was ahead; what is taken in, as it is by then.
		"(push a + out (own a))": "a[70 50 30]", "(push a + out 1) (push b + out (own a))": "a[12 22 30] b[61 32 3]", "(push a + out 1) (pull a + out 1)": "a[13 23 32]",
		"(pull a max in (far a)) (pull b + in (far a))": "a[30 20 30] b[61 32 3]",
		// Acts come from the first one on, where they clash, too.
		"(push a max out 50) (push a + out 1)": "a[52 52 30]", "(push a + out 1) (push a max out 50)": "a[50 50 30]",
		"(put a 5) (push a + out (own a))": "a[65 35 5]", "(push a + out (own a)) (put a 5 (own c))": "a[5 50 5]",
	} {
		wantRegion(t, text, want)
	}
	p, l := acts(t, "(push a + out 1)")
	if u, wrong := den.Region(p, nil, world().Graph(), world().Table()); wrong != api.OK || !u.Same(world().Table()) {
		t.Error("no acts:", wrong)
	}
	var many []api.Act
	for range 100 {
		many = append(many, l...)
	}
	if u, wrong := den.Region(p, many, world().Graph(), world().Table()); wrong != api.OK || !u.Same(but(t, world(), "a[210 220 30]").Table()) {
		t.Error("many acts:", wrong)
	}
}

func wantRegionError(t *testing.T, text string, g *graph.Graph, c *column.Table, want api.Errno) {
	t.Helper()
	p, l := acts(t, text)
	u, wrong := den.Region(p, l, g, c)
	if wrong != want || (u == nil) != (want != api.OK) {
		t.Errorf("%s: %v, %d, not %d", text, u, wrong, want)
	}
}

func TestP14_1ErrorsOfARegion(t *testing.T) {
	noent, ranged, form, none := api.ErrNoent, api.ErrRange, api.ErrForm, api.OK
	for text, want := range map[string]api.Errno{
		// The column is missing, or is on another side alone; where nothing is written that is of no matter.
		"(put zz 1)": noent, "(put s 1)": noent, "(put w 1)": noent, "(push zz + out 1)": noent, "(push d or in true)": noent, "(pull zz max in 1)": noent, "(pull t and out true)": noent,
		"(put zz 1 false)": none, "(push zz + out 1 false)": none, "(push zz + in 1 (= (id) 7))": none, "(put zz 1 (= (id) 2))": noent,
		// A value does not fit its column.
		"(put c 5)": form, "(put c (own a))": form, "(put c 5 (< (id) 0))": none, "(push c + out 1)": form, "(push c max in 2)": form, "(pull c + in true)": form, "(push c + out 0)": none, "(push c min out 5)": none,
		"(push c or out 5)": none, "(pull c and in -7)": none, // what comes of these is a truth
		// Expressions have errors.
		"(put a zz)": noent, "(put a (own s))": noent, "(put a (farid))": ranged, "(put a (far a))": ranged, "(put a (via w))": ranged, "(put a 1 zz)": noent, "(put a 1 (via d))": ranged, "(put a 1 (far c))": ranged,
		"(push a + out zz)": noent, "(push a + out 1 zz)": noent, "(push a + out 1 (via d))": ranged, "(push a + in 1 (farid))": ranged, "(pull a + in (via zz))": noent, "(pull a + in (own zz))": noent,
		"(put a zz false)": none, "(push a + out zz false)": none, "(put a (if true 1 zz))": noent,
		// The first one is told: that of the first act,
		"(put a zz) (put a (farid))": noent, "(put a (farid)) (put a zz)": ranged, "(put c 5) (put zz 1)": form, "(put zz 1) (put c 5)": noent, "(put a 1) (push a + out 1) (pull zz + in 1)": noent,
		// of a node its condition's, its expression's, and the column's,
		"(put a zz (farid))": ranged, "(put a (farid) zz)": noent, "(put zz (farid))": ranged, "(put c zz)": noent, "(push a + out zz (farid))": ranged, "(push a + in (own zz) (via w))": ranged,
		// and of the least node.
		"(put c (+ (* 5 (id)) (if (< (id) 2) 0 zz)))": noent, "(put c (id))": form, "(put zz (if (id) 5 1) (id))": noent,
	} {
		wantRegionError(t, text, world().Graph(), world().Table(), want)
	}
	// A condition is looked at, where no edge is; an expression is not.
	alone := plain.Of(2).With("a", api.OfNode, api.Int, 1, 2)
	wantRegionError(t, "(push a + out zz)", alone.Graph(), alone.Table(), none)
	wantRegionError(t, "(push zz + out 1)", alone.Graph(), alone.Table(), none)
	wantRegionError(t, "(pull zz + in zz)", alone.Graph(), alone.Table(), none)
	wantRegionError(t, "(push a + out 1 zz)", alone.Graph(), alone.Table(), noent)
}

// A region asks neither whether a program fits, nor whether the columns are as many as nodes: each is asked as it comes.
func TestP14_1ColumnsOfAnotherSize(t *testing.T) {
	g := graph.New(3, []api.Edge{{From: 0, To: 1}, {From: 1, To: 2}})
	few := plain.Of(2, "00").With("a", api.OfNode, api.Int, 5, 6).With("w", api.OfEdge, api.Int, 9).Table()
	many := plain.Of(4, "00", "00", "00").With("a", api.OfNode, api.Int, 5, 6, 7, 8).With("w", api.OfEdge, api.Int, 1, 2, 3).Table()
	for text, want := range map[string]string{"(put a 0)": "a[0 0 0 8] w{1 2 3}", "(push a + out (via w))": "a[5 7 9 8] w{1 2 3}", "(pull a + out (farid))": "a[6 8 7 8] w{1 2 3}"} {
		p, l := acts(t, text)
		if u, wrong := den.Region(p, l, g, many); wrong != api.OK || tell(u) != want {
			t.Errorf("%s: %s, %d, not %s", text, tell(u), wrong, want)
		}
	}
	for text, want := range map[string]api.Errno{
		"(put a 0)": api.ErrRange, "(put a 0 (< (id) 2))": api.OK, "(put a 0 (own a))": api.ErrRange, "(push a + out 1)": api.ErrRange, "(push a + out 1 (= (id) 0))": api.OK, "(push a + in 1)": api.OK, "(pull a + in 1)": api.ErrRange, "(pull a + out 1)": api.OK,
		"(push a + out (via w))": api.ErrRange, "(push a + out (via w) (= (id) 0))": api.OK, "(push a + in (own a))": api.ErrRange,
		// An expression's error comes ahead of the column's.
		"(push a + out zz (= (id) 1))": api.ErrNoent, "(push zz + out (via w) (= (id) 1))": api.ErrRange, "(pull zz + out (far a))": api.ErrNoent, "(put a zz (= (id) 2))": api.ErrNoent, "(put zz (own a) (= (id) 2))": api.ErrRange,
	} {
		wantRegionError(t, text, g, few, want)
	}
}

func TestP14_1ActsThatMayNotBe(t *testing.T) {
	p, l := acts(t, "(put a (+ (id) 1) (own c)) (push a + out 1 true) (pull b max in (far b))")
	wrong := map[string]func(l []api.Act){}
	for i := range l {
		for _, kind := range []api.ActKind{api.NoAct, 4, 5, 128, 255} {
			wrong["Kind "+strconv.Itoa(int(kind))+strconv.Itoa(i)] = func(l []api.Act) { l[i].Kind = kind }
		}
		for _, e := range []int{-1, -2, len(p.Exprs), len(p.Exprs) + 1, math.MaxInt, math.MinInt, 1 << 32} {
			wrong["E "+strconv.Itoa(e)+strconv.Itoa(i)] = func(l []api.Act) { l[i].E = e }
			if e != -1 {
				wrong["Cond "+strconv.Itoa(e)+strconv.Itoa(i)] = func(l []api.Act) { l[i].Cond = e }
			}
		}
		for o := range 256 {
			if _, reduces := num.Reduces(api.Op(o)); !reduces && i > 0 {
				wrong["Op "+strconv.Itoa(o)+strconv.Itoa(i)] = func(l []api.Act) { l[i].Op = api.Op(o) }
			}
		}
	}
	for e := range p.Exprs {
		wrong["Cond of PullIt "+strconv.Itoa(e)] = func(l []api.Act) { l[2].Cond = e }
	}
	g, c := world().Graph(), world().Table()
	missing := api.Act{Kind: api.PutIt, Name: "zz", E: 0, Cond: -1}
	if _, wrong := den.Region(p, []api.Act{missing}, g, c); wrong != api.ErrNoent {
		t.Fatal(wrong)
	}
	for what, spoil := range wrong {
		m := slices.Clone(l)
		spoil(m)
		if u, wrong := den.Region(p, m, g, c); u != nil || wrong != api.ErrRange {
			t.Errorf("%s: %v, %d", what, u, wrong)
		}
		// That comes ahead of what any act comes to, and behind what else there is.
		if u, wrong := den.Region(p, append([]api.Act{missing}, m...), g, c); u != nil || wrong != api.ErrRange {
			t.Errorf("%s, behind an error: %v, %d", what, u, wrong)
		}
		for _, gc := range []struct {
			g *graph.Graph
			c *column.Table
		}{{nil, c}, {g, nil}, {nil, nil}} {
			if u, wrong := den.Region(p, m, gc.g, gc.c); u != nil || wrong != api.ErrNil {
				t.Errorf("%s, of nil: %v, %d", what, u, wrong)
			}
		}
		unsound := p
		unsound.Main = append(slices.Clone(p.Main), 0)
		if u, wrong := den.Region(unsound, m, g, c); u != nil || wrong != api.ErrForm {
			t.Errorf("%s, of a program that is not sound: %v, %d", what, u, wrong)
		}
	}
}

// What an act's kind has not is of no matter.
func TestP14_1WhatActsDoNotHave(t *testing.T) {
	p, l := acts(t, "(put a (+ (id) 1) (own c))")
	for o := range 256 {
		l[0].Op, l[0].In = api.Op(o), o%2 == 0
		if u, wrong := den.Region(p, l, world().Graph(), world().Table()); wrong != api.OK || !u.Same(but(t, world(), "a[1 20 3]").Table()) {
			t.Error(o, wrong)
		}
	}
}

func TestRegionsOfProgramsThatAreNotSound(t *testing.T) {
	good := source(t, proof.Sturdy)
	w := zeros(plain.Of(2, "01"), good)
	if _, wrong := den.Region(good, good.Stmts[1].Acts, w.Graph(), w.Table()); wrong != api.OK {
		t.Fatal(wrong)
	}
	for what, spoil := range proof.Spoilers() {
		p := source(t, proof.Sturdy)
		spoil(&p)
		if prog.Sound(p) {
			t.Fatalf("%s: it is sound", what)
		}
		for _, l := range [][]api.Act{nil, {}, good.Stmts[1].Acts, {{}}, {{Kind: 9, E: -5, Cond: -5}}} {
			if u, wrong := den.Region(p, l, w.Graph(), w.Table()); u != nil || wrong != api.ErrForm {
				t.Errorf("%s: %v, %d", what, u, wrong)
			}
		}
		wantReady(t, what, p, w.Graph(), w.Table(), api.ErrForm)
	}
}
