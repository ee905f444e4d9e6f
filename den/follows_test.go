package den_test

import (
	"fmt"
	"slices"
	"strings"
	"testing"

	"reticule/api"
	"reticule/clash"
	"reticule/column"
	"reticule/den"
	"reticule/graph"
	"reticule/perm"
	"reticule/plain"
	"reticule/prog"
	"reticule/proof"
	"reticule/typed"
)

const head = proof.Head

func texts() []string { return proof.Running() }

// orders are some in which things come.
func orders() []plain.Turn {
	back := func(n int) []int {
		l := plain.AsIs(n)
		slices.Reverse(l)
		return l
	}
	around := func(n int) []int {
		l := plain.AsIs(n)
		return append(slices.Clone(l[n/2:]), l[:n/2]...)
	}
	odd := func(n int) []int {
		var l []int
		for i := 1; i < n; i += 2 {
			l = append(l, i)
		}
		for i := 0; i < n; i += 2 {
			l = append(l, i)
		}
		return l
	}
	return []plain.Turn{plain.AsIs, back, around, odd}
}

// programs does f with all texts, and with what comes of them by changes.
func programs(t *testing.T, pieces []string, f func(api.Program)) {
	t.Helper()
	for _, text := range texts() {
		f(source(t, text))
		proof.Changed(text, pieces, func(changed string) {
			if p, _, e := prog.Source(changed); e == api.OK {
				f(p)
			}
		})
	}
}

// plainReady is the error that comes first, of programs over a world of the columns of head.
func plainReady(p api.Program, w plain.World) api.Errno {
	if _, wrong := typed.Check(p); wrong != api.OK {
		return api.ErrType
	}
	for _, s := range p.Stmts {
		if _, wrong := clash.Region(s.Acts); wrong != api.OK {
			return api.ErrConflict
		}
	}
	for _, d := range p.Decls {
		if w.Columns[api.Key{Name: d.Name, Side: d.Side}].Kind != d.Kind {
			return api.ErrGraph
		}
	}
	return api.OK
}

// What Run, Do and Ready come to is what plain reckoning does, in whatever order that goes.
func TestP14_2AndP14_5AgainstPlainReckoning(t *testing.T) {
	decls := source(t, head).Decls
	worlds := plain.Filled(decls, 3)
	seen := map[api.Errno]int{}
	found := 0
	programs(t, []string{"0", "1", "i", "b", "max", "or", "in", "(set i 1)", "(bfs ni 0)", "(put ni 1)", "(push ni max in (own nj))", "while", "loop", "nj", "false", "-1", "(id)", "(own ni)", "(= i j)"}, func(p api.Program) {
		found++
		w := worlds[found%len(worlds)]
		g, c := w.Graph(), w.Table()
		ready := plainReady(p, w)
		if got := den.Ready(p, g, c); got != ready {
			t.Errorf("%v: %d, not %d", p, got, ready)
		}
		for _, fuel := range []int{ample, found % 9} {
			wrong := ready
			var behind plain.World
			steps := 0
			if wrong == api.OK {
				is := false
				behind, steps, is = w.Run(p, p.Main, fuel, orders()[found%4])
				if !is {
					wrong = api.ErrCap
				}
			}
			seen[wrong]++
			u, got, gotE := den.Run(p, g, c, fuel)
			if got != steps || gotE != wrong || gotE == api.OK && !w.Behind(u).Same(behind) {
				text, _ := prog.Text(p)
				t.Errorf("%s over %v, with %d: %s, %d, %d, not %v, %d, %d", text, w, fuel, tell(u), got, gotE, behind, steps, wrong)
			}
		}
	})
	if found < 2000 || seen[api.OK] < 1000 || seen[api.ErrCap] < 200 || seen[api.ErrType] < 500 || seen[api.ErrConflict] < 5 || seen[api.ErrGraph] < 20 {
		t.Error("too few programs:", found, seen)
	}
}

// Each region comes to what plain reckoning does, whether it clashes and fits, or not.
func TestP14_1RegionAgainstPlainReckoning(t *testing.T) {
	decls := source(t, head).Decls
	seen := map[api.Errno]int{}
	found := 0
	worlds := plain.Filled(decls, 2)
	few := []string{
		"(put ni (own nj))", "(put nj (+ (own ni) (id)) (own nb))", "(put nb (own ni))", "(push ni + out (via ei))", "(push ni max in (+ (own nj) (farid)) (= (deg in) 1))", "(pull nj min out (far ni))",
		"(pull nb or in (and (via eb) (far nb)))", "(put z (id) (own nb))", "(push ni + out (own z))", "(put ni (far ni) (own nb))", "(push nb + out 1)", "(pull z + out (via ei))",
	}
	proof.Rows(3, few, func(row []string) {
		if len(row) == 0 {
			return
		}
		found++
		w := worlds[found%len(worlds)]
		p, l := acts(t, strings.Join(row, " "))
		want, wrong := w.Region(p, l, plain.AsIs)
		seen[wrong]++
		u, got := den.Region(p, l, w.Graph(), w.Table())
		if got != wrong || (u == nil) != (wrong != api.OK) || wrong == api.OK && !w.Behind(u).Same(want) {
			t.Errorf("%v over %v: %d, not %d", row, w, got, wrong)
		}
	})
	if seen[api.OK] < 300 || seen[api.ErrNoent] < 100 || seen[api.ErrForm] < 100 || seen[api.ErrRange] < 100 {
		t.Error("too few regions:", seen)
	}
}

func TestP14_3WithMoreFuelNothingElseComesOut(t *testing.T) {
	for _, text := range texts() {
		p := source(t, text)
		for i, w := range plain.Filled(p.Decls, 2) {
			g, c := w.Graph(), w.Table()
			u, steps, wrong := den.Run(p, g, c, ample)
			most := steps + 2
			if wrong == api.ErrCap {
				u, most = nil, 20
			} else if wrong != api.OK {
				t.Fatal(text, wrong)
			}
			for fuel := -1; fuel <= most; fuel++ {
				v, got, gotE := den.Run(p, g, c, fuel)
				if u != nil && max(fuel, 0) >= steps { // below 0 counts as 0
					if gotE != api.OK || got != steps || !v.Same(u) {
						t.Errorf("%s, %d, with %d of %d: %d, %d", text, i, fuel, steps, got, gotE)
					}
				} else if gotE != api.ErrCap || got != 0 || v != nil {
					t.Errorf("%s, %d, with %d of %d: %d, %d", text, i, fuel, steps, got, gotE)
				}
			}
		}
	}
}

func TestP14_4OtherColumnsStay(t *testing.T) {
	for _, text := range texts() {
		p := source(t, text)
		for i, w := range plain.Filled(p.Decls, 2) {
			g := w.Graph()
			u, steps, wrong := den.Run(p, g, w.Table(), ample)
			more := w.Fork()
			other := w.Fill(source(t, "(int ni) (ebool nb) (int o) (nbool o) (eint o) (nint ei)").Decls, uint64(i))
			for k, c := range other.Columns {
				if _, there := more.Columns[k]; !there {
					more.Columns[k] = c
				}
			}
			v, got, gotE := den.Run(p, g, more.Table(), ample)
			if got != steps || gotE != wrong {
				t.Errorf("%s, %d: %d, %d, not %d, %d", text, i, got, gotE, steps, wrong)
				continue
			}
			if wrong != api.OK {
				continue
			}
			for k, c := range more.Columns {
				want := c.Vals
				if _, there := w.Columns[k]; there {
					want = u.List(k)
				}
				if !slices.Equal(v.List(k), want) {
					t.Errorf("%s, %d, %v: %d, not %d", text, i, k, v.List(k), want)
				}
			}
			if len(v.Keys()) != len(more.Columns) || len(more.Columns) <= len(w.Columns) {
				t.Errorf("%s, %d: columns are missing", text, i)
			}
		}
	}
}

// Columns that are declared, and not named, stay, too.
func TestP14_4ColumnsThatAreNotNamedStay(t *testing.T) {
	p := source(t, head+"(set i 5) (each (put ni (id)))")
	for _, w := range plain.Filled(p.Decls, 3) {
		u, _, wrong := den.Run(p, w.Graph(), w.Table(), 2)
		if wrong != api.OK {
			t.Fatal(wrong)
		}
		want := w.With("i", api.Scalar, api.Int, 5)
		ni := make([]api.Word, w.Nodes)
		for v := range ni {
			ni[v] = api.Word(v)
		}
		if !w.Behind(u).Same(want.With("ni", api.OfNode, api.Int, ni...)) {
			t.Error(tell(u))
		}
	}
}

// turned are acts in an order.
func turned(l []api.Act, order []int) []api.Act {
	var m []api.Act
	for _, i := range order {
		m = append(m, l[i])
	}
	return m
}

func TestP14_5TheOrderOfActs(t *testing.T) {
	decls := source(t, head).Decls
	for _, text := range []string{
		"(put ni (own nj)) (push nj + out (own ni)) (put nb (= (own ni) (own nj)))",
		"(push ni + out (own nj)) (pull ni + in (far ni)) (push ni + in 3 (own nb)) (pull nj max out (via ei))",
		"(pull nb or in (far nb)) (push nb or out true (< (id) 2)) (put ni (if (own nb) 1 0)) (push nj min out (via ei))",
	} {
		p, l := acts(t, text)
		if _, wrong := clash.Region(l); wrong != api.OK {
			t.Fatal(text)
		}
		for _, w := range plain.Filled(decls, 3) {
			g, c := w.Graph(), w.Table()
			want, wrong := den.Region(p, l, g, c)
			if wrong != api.OK {
				t.Fatal(text, wrong)
			}
			for k := range perm.Many(len(l)) {
				order, _ := perm.From(len(l), k)
				if u, wrong := den.Region(p, turned(l, order), g, c); wrong != api.OK || !u.Same(want) {
					t.Errorf("%s, %v: %d", text, order, wrong)
				}
			}
		}
	}
}

// renumbered is a world whose nodes have other numbers, and whose edges other places.
func renumbered(w plain.World, nodes, edges []int) plain.World {
	out := plain.World{Nodes: w.Nodes, Edges: make([]api.Edge, len(w.Edges)), Columns: map[api.Key]plain.Column{}}
	for i, e := range w.Edges {
		out.Edges[edges[i]] = api.Edge{From: nodes[e.From], To: nodes[e.To]}
	}
	for k, c := range w.Columns {
		vals := slices.Clone(c.Vals)
		for i, val := range c.Vals {
			switch k.Side {
			case api.OfNode:
				vals[nodes[i]] = val
			case api.OfEdge:
				vals[edges[i]] = val
			}
		}
		out.Columns[k] = plain.Column{Kind: c.Kind, Vals: vals}
	}
	return out
}

// Whatever numbers nodes and edges have, the same comes out at each, of programs that do not ask for numbers.
func TestP14_5AndE2TheOrderOfNodesAndEdges(t *testing.T) {
	for _, text := range []string{
		"(fold i + (own ni) (own nb)) (fold j max (+ (own nj) (deg in))) (fold b and (own nb))",
		"(each (put ni (deg out)) (push nj + out (+ (own ni) (via ei))) (pull nb or in (and (far nb) (via eb))))",
		"(set j 0) (while (< j 3) (set j (+ j 1)) (each (pull ni max in (+ 1 (far ni))) (push nj min in (via ei) (own nb))))",
		"(loop b (each (pull ni + out (* (far nj) (via ei))) (put nb (< (own nj) (own ni)))) (fold b and (own nb)))",
		"(bfs ni i) (each (push nj + out 1 (= (own ni) -1)))",
		"(bfs ni i (fold j + (own ni)) (each (push nj + out (own ni))))",
	} {
		p := source(t, head+text)
		for n, w := range plain.Filled(p.Decls, 4) {
			root := api.Word(n % (w.Nodes + 1))
			w = w.With("i", api.Scalar, api.Int, root)
			u, steps, wrong := den.Run(p, w.Graph(), w.Table(), ample)
			for k := range orders() {
				nodes, edges := orders()[k](w.Nodes), orders()[(k+n)%4](len(w.Edges))
				other := renumbered(w, nodes, edges)
				if strings.Contains(text, "bfs") && root < api.Word(w.Nodes) {
					other = other.With("i", api.Scalar, api.Int, api.Word(nodes[root]))
				}
				v, got, gotE := den.Run(p, other.Graph(), other.Table(), ample)
				if got != steps || gotE != wrong {
					t.Errorf("%s, %v, %v: %d, %d, not %d, %d", text, nodes, edges, got, gotE, steps, wrong)
					continue
				}
				if wrong != api.OK {
					continue
				}
				want := renumbered(w.Behind(u), nodes, edges).Columns
				for key, c := range other.Behind(v).Columns {
					if !slices.Equal(c.Vals, want[key].Vals) && (key.Name != "i" || !strings.Contains(text, "bfs")) {
						t.Errorf("%s, %v, %v, %v: %d, not %d", text, nodes, edges, key, c.Vals, want[key].Vals)
					}
				}
			}
		}
	}
}

// smallGraphs does f with all graphs of up to 3 nodes and up to 4 edges.
func smallGraphs(f func(*graph.Graph)) {
	for n := 1; n <= 3; n++ {
		var all []api.Edge
		for i := range n * n {
			all = append(all, api.Edge{From: i / n, To: i % n})
		}
		proof.Rows(4, all, func(l []api.Edge) { f(graph.New(n, l)) })
	}
}

func TestP14_6LevelsWithoutMore(t *testing.T) {
	p := source(t, "(int r) (nint d) (bfs d r)")
	d, r := api.Key{Name: "d", Side: api.OfNode}, api.Key{Name: "r", Side: api.Scalar}
	ask := func(g *graph.Graph) {
		c := column.New(g.N(), g.M())
		c.Declare(d, api.Int)
		c.Declare(r, api.Int)
		c.Fill(d, 1)
		for root := -1; root <= g.N(); root++ {
			c.Set(r, 0, api.Word(root))
			u, steps, wrong := den.Run(p, g, c, ample)
			levels, many := g.Levels(root), 0
			for v, w := range u.List(d) {
				if w != api.Word(levels[v]) {
					t.Errorf("%d: %d, not %d", root, u.List(d), levels)
				}
				many = max(many, levels[v]+1)
			}
			if wrong != api.OK || steps != 1+many {
				t.Errorf("%d: %d, %d, not %d", root, steps, wrong, 1+many)
			}
		}
	}
	smallGraphs(ask)
	for _, w := range plain.Shapes() {
		ask(w.Graph())
		ask(w.Graph().Turned())
	}
}

// wantAlike asks that two texts mean the same, of the columns that the first one declares, over a graph, and another one.
func wantAlike(t *testing.T, text, other string, turn func(*graph.Graph) *graph.Graph) {
	t.Helper()
	p, q := source(t, text), source(t, other)
	found := 0
	for i, w := range plain.Filled(p.Decls, 4) {
		u, _, wrong := den.Run(p, w.Graph(), w.Table(), ample)
		v, _, otherE := den.Run(q, turn(w.Graph()), zeros(w, q).Table(), ample)
		if wrong == api.ErrCap || otherE == api.ErrCap {
			continue
		}
		found++
		if wrong != api.OK || otherE != api.OK {
			t.Fatal(text, wrong, other, otherE)
		}
		for k := range w.Columns {
			if !slices.Equal(u.List(k), v.List(k)) {
				t.Errorf("%s, %s, %d, %v: %d, %d", text, other, i, k, u.List(k), v.List(k))
			}
		}
	}
	if found < 20 {
		t.Error("too few runs:", text, found)
	}
}

func asItIs(g *graph.Graph) *graph.Graph { return g }

// A program means the same, as it is read anew, pushed, turned, split, and lowered.
func TestE3EachFormMeansTheSame(t *testing.T) {
	for _, text := range texts() {
		told, wrong := prog.Text(source(t, text))
		if wrong != api.OK {
			t.Fatal(wrong)
		}
		wantAlike(t, text, told, asItIs)
	}
	for pulled, pushed := range map[string]string{
		"(each (pull ni + out (* (far nj) (via ei))))": "(each (push ni + in (* (own nj) (via ei))))", "(each (pull ni max in (- (farid) (far ni))))": "(each (push ni max out (- (id) (own ni))))",
		"(each (pull nb or in (and (far nb) (via eb))) (put ni (id)))": "(each (push nb or out (and (own nb) (via eb))) (put ni (id)))",
	} {
		wantAlike(t, head+pulled, head+pushed, asItIs)
	}
	for text, other := range map[string]string{
		"(each (pull ni + out (* (far nj) (via ei))) (put nj (deg in)))":              "(each (pull ni + in (* (far nj) (via ei))) (put nj (deg out)))",
		"(each (push ni min in (+ (via ei) (deg out)) (own nb))) (fold i + (deg in))": "(each (push ni min out (+ (via ei) (deg in)) (own nb))) (fold i + (deg out))",
	} {
		wantAlike(t, head+text, head+other, (*graph.Graph).Turned)
	}
	wantAlike(t, head+"(each (put ni (own nj)) (push nb or out true) (pull nb or in (via eb)))", head+"(each (put ni (own nj))) (each (push nb or out true)) (each (pull nb or in (via eb)))", asItIs)
	wantAlike(t, head+"(loop (< i 3) (set i (+ (& i 7) 1)) (fold j max i))", head+"(set i (+ (& i 7) 1)) (fold j max i) (while (< i 3) (set i (+ (& i 7) 1)) (fold j max i))", asItIs)
	for _, c := range [][2]string{{"0", ""}, {"(& i 3)", "(set j (+ j 1)) (each (put nj (+ (own ni) j)))"}, {"i", "(each (put ni 7 (and (own nb) (= (own ni) 1))))"}, {"1", "(fold j + (own ni)) (if (< j 0) ((each (push nj max out (own ni)))) ())"}} {
		lowered := "(set r %s) (each (put ni (if (= (id) r) 0 -1))) (set l 0) (set m false) (fold m or (= (own ni) l)) (while m %s (each (put h false)) (each (push h or out true (= (own ni) l))) (set l (+ l 1)) (each (put ni l (and (own h) (= (own ni) -1)))) (set m false) (fold m or (= (own ni) l)))"
		wantAlike(t, head+"(bfs ni "+c[0]+" "+c[1]+")", head+"(int l) (int r) (bool m) (nbool h) "+fmt.Sprintf(lowered, c[0], c[1]), asItIs)
	}
}
