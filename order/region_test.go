package order_test

import (
	"math"
	"slices"
	"strconv"
	"strings"
	"testing"

	"reticule/api"
	"reticule/clash"
	"reticule/column"
	"reticule/den"
	"reticule/graph"
	"reticule/num"
	"reticule/order"
	"reticule/perm"
	"reticule/plain"
	"reticule/prog"
	"reticule/proof"
)

func source(t *testing.T, text string) api.Program {
	t.Helper()
	p, at, e := prog.Source(text)
	if at != 0 || e != api.OK {
		t.Fatalf("%q is no program: %d, %d", text, at, e)
	}
	return p
}

// acts are those of a region, and a program that has their expressions; there may be more than a program's region has.
func acts(t *testing.T, l ...string) (api.Program, []api.Act) {
	t.Helper()
	if len(l) == 0 {
		return api.Program{}, nil
	}
	p := source(t, "(each "+strings.Join(l, ") (each ")+")")
	return p, actsOf(p)
}

// world has three nodes, with edges 0 to 1, 2 to 0 twice, and from 1 to itself.
func world() plain.World {
	return plain.Of(3, "01", "20", "20", "11").
		With("s", api.Scalar, api.Int, 7).With("t", api.Scalar, api.Bool, 1).
		With("a", api.OfNode, api.Int, 10, 20, 30).With("b", api.OfNode, api.Int, 1, 2, 3).With("c", api.OfNode, api.Bool, 1, 0, 1).
		With("w", api.OfEdge, api.Int, 100, 200, 300, 400).With("d", api.OfEdge, api.Bool, 0, 1, 1, 0)
}

// numbers are some of orders: those of few things all, and great ones.
func numbers() []uint64 {
	l := []uint64{1 << 32, 1 << 63, math.MaxUint64 - 1, math.MaxUint64, perm.Many(12) - 1, perm.Many(16) - 1}
	for k := range uint64(30) {
		l = append(l, k)
	}
	return l
}

// wantNodes asks for a column of nodes behind acts over the world in an order.
func wantNodes(t *testing.T, text string, k uint64, name string, want ...api.Word) {
	t.Helper()
	p, l := acts(t, text)
	c := world().Table()
	u, wrong := order.Region(p, l, world().Graph(), c, k)
	if wrong != api.OK || !u.Same(world().With(name, api.OfNode, c.KindOf(api.Key{Name: name, Side: api.OfNode}), want...).Table()) {
		t.Errorf("%s in the order %d: %s, %d, not %s %d", text, k, plain.Tell(u), wrong, name, want)
	}
	if !c.Same(world().Table()) {
		t.Errorf("%s: the columns changed: %s", text, plain.Tell(c))
	}
}

func TestP15_1ActsComeInTheOrder(t *testing.T) {
	for k, last := range []api.Word{3, 2, 3, 1, 2, 1, 3, 2} {
		wantNodes(t, "(put a 1) (put a 2) (put a 3)", uint64(k), "a", last, last, last)
		wantNodes(t, "(put a 1 (own c)) (put a 2 (own c)) (put a 3 (own c))", uint64(k), "a", last, 20, last)
	}
	for k := uint64(0); k < 8; k += 2 {
		wantNodes(t, "(push a max out 50) (push a + out 1)", k, "a", 52, 52, 30)
		wantNodes(t, "(push a max out 50) (push a + out 1)", k+1, "a", 50, 50, 30)
		wantNodes(t, "(put a 5) (push a + out (own a))", k, "a", 65, 35, 5)
		wantNodes(t, "(put a 5) (push a + out (own a))", k+1, "a", 5, 5, 5)
		wantNodes(t, "(pull c and out (via d)) (put c true)", k, "c", 1, 1, 1)
		wantNodes(t, "(pull c and out (via d)) (put c true)", k+1, "c", 0, 0, 1)
	}
	wantNodes(t, "(put a 1) (put a 2) (put a 3)", math.MaxUint64, "a", 1, 1, 1) // it is 3 modulo 6
}

func TestP15_1WhatIsReadIsAsItWas(t *testing.T) {
	p, l := acts(t, "(put a (own b)) (put b (own a)) (push c or out (own c))")
	want := world().With("a", api.OfNode, api.Int, 1, 2, 3).With("b", api.OfNode, api.Int, 10, 20, 30).With("c", api.OfNode, api.Bool, 1, 1, 1).Table()
	for _, k := range numbers() {
		if u, wrong := order.Region(p, l, world().Graph(), world().Table(), k); wrong != api.OK || !u.Same(want) {
			t.Errorf("order %d: %s, %d", k, plain.Tell(u), wrong)
		}
	}
}

// A column of truths takes numbers in, as long as it is 0 or 1 by each: so it is told in which order they come.
func wantOrder(t *testing.T, what string, w plain.World, text string, k uint64, fits bool) {
	t.Helper()
	p, l := acts(t, text)
	want := api.ErrForm
	if fits {
		want = api.OK
	}
	if u, wrong := order.Region(p, l, w.Graph(), w.Table(), k); wrong != want || (u != nil) != fits {
		t.Errorf("%s, %s in the order %d: %d, not %d", what, text, k, wrong, want)
	}
}

func TestP15_1NodesComeInTheOrder(t *testing.T) {
	w := plain.Of(4, "10", "20", "30").With("c", api.OfNode, api.Bool, 0, 0, 0, 0).With("a", api.OfNode, api.Int, 0, 1, -1, 0)
	for _, k := range numbers() {
		places, _ := perm.From(4, k)
		fits := slices.Index(places, 1) < slices.Index(places, 2)
		wantOrder(t, "nodes", w, "(push c + out (own a))", k, fits)
	}
	wantOrder(t, "nodes", w, "(push c + out (own a))", 0, true)
	wantOrder(t, "nodes", w, "(push c + out (own a))", 2, false) // 0, 2, 1, 3
	wantOrder(t, "nodes", w, "(push c + out (own a))", 6, true)  // 1, 0, 2, 3
	wantOrder(t, "nodes", w, "(push c + out (own a))", 12, false)
	// Twelve nodes, which is as many as there may be.
	most := plain.Of(api.MaxNodes, "80", "90").With("c", api.OfNode, api.Bool, make([]api.Word, 12)...).With("a", api.OfNode, api.Int, 0, 0, 0, 0, 0, 0, 0, 0, 1, -1, 0, 0)
	wantOrder(t, "most nodes", most, "(push c + out (own a))", 0, true)
	wantOrder(t, "most nodes", most, "(push c + out (own a))", 5, true)
	wantOrder(t, "most nodes", most, "(push c + out (own a))", 6, false)
	wantOrder(t, "most nodes", most, "(push c + out (own a))", perm.Many(12)-1, false)
	wantOrder(t, "most nodes", most, "(push c + out (own a))", perm.Many(12), true)
}

func TestP15_1EdgesComeInTheOrder(t *testing.T) {
	for _, many := range []int{2, 3, 5, api.MaxPerm, api.MaxPerm + 1, api.MaxEdges} {
		for _, in := range []bool{false, true} {
			g, v, mine := fan(many, in)
			first, last := mine[0], mine[many-1]
			w := plain.World{Nodes: g.N(), Columns: map[api.Key]plain.Column{}}
			for i := range g.M() {
				e, _ := g.Edge(i)
				w.Edges = append(w.Edges, e)
			}
			weights := make([]api.Word, g.M())
			weights[first], weights[last] = 1, -1
			w = w.With("c", api.OfNode, api.Bool, 0, 0, 0, 0).With("w", api.OfEdge, api.Int, weights...)
			text := map[bool]string{false: "(pull c + out (via w))", true: "(pull c + in (via w))"}[in]
			for _, k := range append(numbers(), perm.Many(min(many, api.MaxPerm))-1) {
				l := order.Edges(g, v, in, k)
				wantOrder(t, strconv.Itoa(many)+" edges", w, text, k, slices.Index(l, first) < slices.Index(l, last))
			}
			wantOrder(t, strconv.Itoa(many)+" edges", w, text, 0, true)
			wantOrder(t, strconv.Itoa(many)+" edges", w, text, perm.Many(min(many, api.MaxPerm))-1, false)
		}
	}
}

func TestP15_1NoActOneAndMaxPerm(t *testing.T) {
	p, one := acts(t, "(put a (id))")
	w := world()
	for _, k := range numbers() {
		for _, l := range [][]api.Act{nil, {}} {
			for _, q := range []api.Program{p, {}} {
				if u, wrong := order.Region(q, l, w.Graph(), w.Table(), k); wrong != api.OK || !u.Same(w.Table()) {
					t.Errorf("no act, order %d: %d", k, wrong)
				}
			}
		}
		if u, wrong := order.Region(p, one, w.Graph(), w.Table(), k); wrong != api.OK || !u.Same(w.With("a", api.OfNode, api.Int, 0, 1, 2).Table()) {
			t.Errorf("one act, order %d: %d", k, wrong)
		}
	}
	var texts []string
	for i := range api.MaxPerm + 1 {
		texts = append(texts, "(put a "+strconv.Itoa(i)+")")
	}
	p, l := acts(t, texts...)
	for _, k := range append(numbers(), perm.Many(16)/2, perm.Many(16), perm.Many(15)) {
		for many := 1; many <= api.MaxPerm; many++ {
			places, _ := perm.From(many, k)
			last := api.Word(places[many-1])
			if u, wrong := order.Region(p, l[:many], w.Graph(), w.Table(), k); wrong != api.OK || !u.Same(w.With("a", api.OfNode, api.Int, last, last, last).Table()) {
				t.Errorf("%d acts, order %d: %s, %d, not %d", many, k, plain.Tell(u), wrong, last)
			}
		}
		if u, wrong := order.Region(p, l, w.Graph(), w.Table(), k); u != nil || wrong != api.ErrSpace {
			t.Errorf("too many acts, order %d: %v, %d", k, u, wrong)
		}
	}
}

// few are acts that clash with one another, and do not; that fit, and do not.
func few() []string {
	return []string{
		"(put ni (own nj))", "(put nj (+ (own ni) (id)) (own nb))", "(put nb (own ni))", "(push ni + out (via ei))", "(push ni max in (+ (own nj) (farid)) (= (deg in) 1))", "(pull nj min out (far ni))",
		"(pull nb or in (and (via eb) (far nb)))", "(put z (id) (own nb))", "(push ni + out (own z))", "(put ni (far ni) (own nb))", "(push nb + out (- 1 (via ei)))", "(pull z + out (via ei))",
	}
}

// fitting are acts that fit, and clash with one another, or do not.
func fitting() []string {
	return []string{
		"(put ni (own nj))", "(put nj (+ (own ni) (id)) (own nb))", "(put nb (= (own ni) (own nj)))", "(push ni + out (via ei))", "(push ni + in (own nj) (own nb))", "(pull ni + out (far ni))",
		"(push nj max in (+ (own nj) (via ei)) (= (deg in) 1))", "(pull nj max out (far ni))", "(pull nb or in (and (via eb) (far nb)))", "(push nb or out true (< (id) 2))", "(push nj min out (id))",
	}
}

// worlds are of the columns that few name, and running programs; one has nodes with more edges than MaxPerm.
func worlds(t *testing.T, many int) []plain.World {
	t.Helper()
	decls := source(t, proof.Head).Decls
	all := plain.Filled(decls, many)
	broad := plain.Of(5, "01", "12")
	for i := range api.MaxPerm + 3 {
		broad.Edges = append(broad.Edges, api.Edge{From: 3, To: i % 5})
	}
	narrow := plain.World{Nodes: 5, Edges: slices.Clone(broad.Edges), Columns: broad.Columns}
	for i, e := range narrow.Edges {
		narrow.Edges[i] = api.Edge{From: e.To, To: e.From}
	}
	for k := range many {
		all = append(all, broad.Fill(decls, uint64(k)), narrow.Fill(decls, uint64(k)))
	}
	return all
}

// Each region comes to what plain reckoning does, whether it clashes and fits, or not; with 0 to what den does.
func TestP15_1RegionAgainstPlainReckoning(t *testing.T) {
	all := worlds(t, 2)
	seen := map[api.Errno]int{}
	other, found := 0, 0
	proof.Rows(3, few(), func(row []string) {
		if len(row) == 0 {
			return
		}
		found++
		w := all[found%len(all)]
		g, c := w.Graph(), w.Table()
		p, l := acts(t, row...)
		first, firstE := den.Region(p, l, g, c)
		for _, k := range []uint64{0, 1, uint64(found % 6), uint64(found * found), math.MaxUint64 - uint64(found)} {
			want, wrong := w.Region(p, l, plain.ByNumber(k))
			seen[wrong]++
			u, got := order.Region(p, l, g, c, k)
			if got != wrong || (u == nil) != (wrong != api.OK) || wrong == api.OK && !w.Behind(u).Same(want) {
				t.Errorf("%v over %v, order %d: %d, not %d", row, w, k, got, wrong)
			}
			if same := got == firstE && (wrong != api.OK || u.Same(first)); !same {
				other++
				if k == 0 {
					t.Errorf("%v over %v: %s, %d, not %s, %d", row, w, plain.Tell(u), got, plain.Tell(first), firstE)
				}
			}
		}
	})
	if seen[api.OK] < 1500 || seen[api.ErrNoent] < 500 || seen[api.ErrForm] < 500 || seen[api.ErrRange] < 500 || other < 500 {
		t.Error("too few regions:", seen, other)
	}
}

// Columns of which acts do not clash are the same in whatever order: that is den's.
func TestP15_3ActsThatDoNotClash(t *testing.T) {
	all := worlds(t, 3)
	found, clashing := 0, 0
	proof.Rows(3, fitting(), func(row []string) {
		if len(row) == 0 {
			return
		}
		p, l := acts(t, row...)
		if _, wrong := clash.Region(l); wrong != api.OK {
			clashing++
			return
		}
		found++
		w := all[found%len(all)]
		g, c := w.Graph(), w.Table()
		want, wrong := den.Region(p, l, g, c)
		if wrong != api.OK {
			t.Fatal(row, wrong)
		}
		for k := range uint64(7) {
			k += uint64(found)
			if u, wrong := order.Region(p, l, g, c, k); wrong != api.OK || !u.Same(want) {
				t.Errorf("%v over %v, order %d: %s, %d, not %s", row, w, k, plain.Tell(u), wrong, plain.Tell(want))
			}
		}
		if k, is := order.Witness(p, l, g, c, 5); k != 0 || is {
			t.Errorf("%v: %d, %v", row, k, is)
		}
	})
	if found < 400 || clashing < 400 {
		t.Error("too few regions:", found, clashing)
	}
}

func TestP15_1Example(t *testing.T) {
	w := plain.Of(3, "02", "12").With("a", api.OfNode, api.Int, 0, 0, 5)
	p, l := acts(t, "(push a + out 1)")
	for _, k := range numbers() {
		if u, wrong := order.Region(p, l, w.Graph(), w.Table(), k); wrong != api.OK || plain.Tell(u) != "a[0 0 7]" {
			t.Errorf("order %d: %s, %d", k, plain.Tell(u), wrong)
		}
	}
}

// The first error is that of the act that comes first.
func TestP15_1ErrorsOfARegion(t *testing.T) {
	noent, ranged, form := api.ErrNoent, api.ErrRange, api.ErrForm
	for text, want := range map[string][2]api.Errno{
		"(put a zz) (put a (farid))": {noent, ranged}, "(put a (farid)) (put a zz)": {ranged, noent}, "(put c 5) (put zz 1)": {form, noent}, "(put zz 1) (put c 5)": {noent, form},
		"(put a 1) (push zz + out 1)": {noent, noent}, "(put a zz (farid)) (put a 1)": {ranged, ranged}, "(put a (farid) zz) (put a 1)": {noent, noent}, "(put zz (farid)) (put c (own zz))": {ranged, noent},
		"(push zz + out (via zz)) (pull c + in 2)": {noent, form}, "(push a + out 1 (via d)) (pull c or in (own zz))": {ranged, noent}, "(put a zz false) (push zz + out 1 false)": {api.OK, api.OK},
		"(push c + out 0) (push c or in 7)": {api.OK, api.OK},
	} {
		p, l := acts(t, text)
		for k := range uint64(6) {
			u, wrong := order.Region(p, l, world().Graph(), world().Table(), k)
			if wrong != want[k%2] || (u == nil) != (wrong != api.OK) {
				t.Errorf("%s, order %d: %v, %d, not %d", text, k, u, wrong, want[k%2])
			}
		}
	}
	// Of nodes it is that of the one that comes first.
	p, l := acts(t, "(put zz (own a) (id))")
	g, c := graph.New(3, nil), column.New(2, 0)
	c.Declare(api.Key{Name: "a", Side: api.OfNode}, api.Int)
	for k, want := range []api.Errno{noent, ranged, noent, noent, ranged, ranged} {
		if u, wrong := order.Region(p, l, g, c, uint64(k)); u != nil || wrong != want {
			t.Errorf("order %d: %v, %d, not %d", k, u, wrong, want)
		}
	}
}

// wrongActs is what makes acts ones that may not be.
func wrongActs(exprs int) map[string]func(a *api.Act) {
	wrong := map[string]func(a *api.Act){}
	for _, kind := range []api.ActKind{api.NoAct, 4, 5, 128, 255} {
		wrong["Kind "+strconv.Itoa(int(kind))] = func(a *api.Act) { a.Kind = kind }
	}
	for _, e := range []int{-1, -2, exprs, exprs + 1, math.MaxInt, math.MinInt, 1 << 32} {
		wrong["E "+strconv.Itoa(e)] = func(a *api.Act) { a.E = e }
		if e != -1 {
			wrong["Cond "+strconv.Itoa(e)] = func(a *api.Act) { a.Cond = e }
		}
	}
	for o := range 256 {
		if _, reduces := num.Reduces(api.Op(o)); !reduces {
			wrong["Op of PushIt "+strconv.Itoa(o)] = func(a *api.Act) { a.Kind, a.Op = api.PushIt, api.Op(o) }
			wrong["Op of PullIt "+strconv.Itoa(o)] = func(a *api.Act) { a.Kind, a.Op, a.Cond = api.PullIt, api.Op(o), -1 }
		}
	}
	for e := range exprs {
		wrong["Cond of PullIt "+strconv.Itoa(e)] = func(a *api.Act) { a.Kind, a.Op, a.Cond = api.PullIt, api.Add, e }
	}
	return wrong
}

func TestP15_1ActsThatMayNotBe(t *testing.T) {
	p, l := acts(t, "(put a (+ (id) 1) (own c)) (push a + out 1 true) (pull b max in (far b))")
	g, c := world().Graph(), world().Table()
	unsound := p
	unsound.Main = append(slices.Clone(p.Main), 0)
	missing := api.Act{Kind: api.PutIt, Name: "zz", E: 0, Cond: -1}
	var many []api.Act
	for range api.MaxPerm + 1 {
		many = append(many, missing)
	}
	want := func(what string, q api.Program, m []api.Act, g *graph.Graph, c *column.Table, want api.Errno) {
		t.Helper()
		for k := range uint64(3) {
			if u, wrong := order.Region(q, m, g, c, k); u != nil || wrong != want {
				t.Errorf("%s, order %d: %v, %d, not %d", what, k, u, wrong, want)
			}
			if k, is := order.Witness(q, m, g, c, 64); k != 0 || is {
				t.Errorf("%s: %d, %v", what, k, is)
			}
		}
	}
	// That there are too many comes ahead of what any act comes to, and behind what else there is.
	want("too many", p, many, g, c, api.ErrSpace)
	want("too many, not sound", unsound, many, g, c, api.ErrForm)
	want("too many, of nil", unsound, many, nil, c, api.ErrNil)
	want("too many, of nil", p, many, g, nil, api.ErrNil)
	for what, spoil := range wrongActs(len(p.Exprs)) {
		for i := range l {
			m := slices.Clone(l)
			spoil(&m[i])
			want(what, p, m, g, c, api.ErrRange)
			want(what+" behind an error", p, append([]api.Act{missing}, m...), g, c, api.ErrRange)
			want(what+" of too many", p, append(slices.Clone(many), m[i]), g, c, api.ErrRange)
			want(what+", not sound", unsound, m, g, c, api.ErrForm)
			want(what+", of nil", p, m, nil, c, api.ErrNil)
			want(what+", of nil", unsound, m, g, nil, api.ErrNil)
		}
	}
}

// What an act's kind has not is of no matter.
func TestP15_1WhatActsDoNotHave(t *testing.T) {
	p, l := acts(t, "(put a (+ (id) 1) (own c))")
	want := world().With("a", api.OfNode, api.Int, 1, 20, 3).Table()
	for o := range 256 {
		l[0].Op, l[0].In = api.Op(o), o%2 == 0
		if u, wrong := order.Region(p, l, world().Graph(), world().Table(), uint64(o)); wrong != api.OK || !u.Same(want) {
			t.Error(o, wrong)
		}
	}
}

func TestProgramsThatAreNotSound(t *testing.T) {
	good := source(t, proof.Sturdy)
	w := plain.Of(2, "01").Zeros(good.Decls)
	for what, spoil := range proof.Spoilers() {
		p := source(t, proof.Sturdy)
		spoil(&p)
		if prog.Sound(p) {
			t.Fatalf("%s: it is sound", what)
		}
		for k, l := range [][]api.Act{nil, {}, good.Stmts[1].Acts, {{}}, {{Kind: 9, E: -5, Cond: -5}}, make([]api.Act, 99)} {
			if u, wrong := order.Region(p, l, w.Graph(), w.Table(), uint64(k)); u != nil || wrong != api.ErrForm {
				t.Errorf("%s: Region: %v, %d", what, u, wrong)
			}
			if k, is := order.Witness(p, l, w.Graph(), w.Table(), 64); k != 0 || is {
				t.Errorf("%s: Witness: %d, %v", what, k, is)
			}
		}
		if u, steps, wrong := order.Run(p, w.Graph(), w.Table(), 9, 1, 2); u != nil || steps != 0 || wrong != api.ErrForm {
			t.Errorf("%s: Run: %v, %d, %d", what, u, steps, wrong)
		}
	}
}
