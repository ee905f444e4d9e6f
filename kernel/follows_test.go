package kernel_test

import (
	"slices"
	"testing"

	"reticule/api"
	"reticule/clash"
	"reticule/column"
	"reticule/den"
	"reticule/graph"
	"reticule/kernel"
	"reticule/mail"
	"reticule/norm"
	"reticule/perm"
	"reticule/plain"
	"reticule/prog"
	"reticule/proof"
)

// regions does f with the acts of all regions, of programs in their normal form that fit themselves and do not clash.
func regions(t *testing.T, f func(p api.Program, l []api.Act)) {
	t.Helper()
	more := []string{
		"(each (put ni (own nj)) (put nj (own ni)))",
		"(each (push ni + out (own nj)) (push ni + in (via ei)) (put nj 4 (own nb)))",
		"(each (push ni min out (id)) (push nj max in (via ei) (own nb)) (pull ni min in (farid)))",
		"(each (push nb or out (own nb)) (push nb or in (via eb) (= (id) 0)))",
	}
	for i := range more {
		more[i] = proof.Head + more[i]
	}
	for _, text := range slices.Concat(proof.Running(), more) {
		p, e := norm.Normal(source(t, text))
		if e != api.OK {
			t.Fatalf("%q has no normal form: %d", text, e)
		}
		for _, s := range p.Stmts {
			if s.Kind == api.EachIt {
				f(p, s.Acts)
			}
		}
	}
}

// set lets what a node writes stand in columns.
func set(t *testing.T, table *column.Table, v int, l []api.Write) {
	t.Helper()
	for _, w := range l {
		if e := table.Set(api.Key{Name: w.Name, Side: api.OfNode}, v, w.Val); e != api.OK {
			t.Errorf("%v at %d: %d", w, v, e)
		}
	}
}

// together are the columns behind acts of all nodes, that come in an order of their own; so do messages.
func together(t *testing.T, p api.Program, l []api.Act, g *graph.Graph, table *column.Table, k uint64) *column.Table {
	t.Helper()
	behind := table.Fork()
	var sent []api.Message
	nodes, _ := perm.From(g.N(), k)
	for _, v := range nodes {
		puts, e := kernel.Puts(p, l, g, table, v)
		messages, wrong := kernel.Sends(p, l, g, table, v, k/2)
		if e != api.OK || wrong != api.OK {
			t.Fatal(e, wrong)
		}
		set(t, behind, v, puts)
		sent = append(sent, messages...)
	}
	sent = mail.Turned(sent, k/3)
	if k%5 == 0 {
		combined, e := mail.Combined(sent, kernel.Ops(l))
		if e != api.OK {
			t.Fatal(e)
		}
		sent = mail.Turned(combined, k)
	}
	slices.Reverse(nodes)
	for _, v := range nodes {
		takes, e := kernel.Takes(p, l, behind, v, sent)
		if e != api.OK {
			t.Fatal(e)
		}
		set(t, behind, v, takes)
	}
	return behind
}

func TestP23_3AndE2WhatAllNodesDoIsTheRegion(t *testing.T) {
	t.Parallel()
	found := 0
	regions(t, func(p api.Program, l []api.Act) {
		for _, w := range plain.Filled(p.Decls, 1) {
			g, table := w.Graph(), w.Table()
			want, e := den.Region(p, l, g, table)
			if e != api.OK {
				t.Fatal(e)
			}
			found++
			for _, k := range []uint64{0, 1, 8, 15, 1 << 40, 1<<63 + 5} {
				if got := together(t, p, l, g, table, k); !got.Same(want) {
					text, _ := prog.Text(p)
					t.Errorf("%s, %v, over %v, by %d: %s, not %s", text, l, w, k, plain.Tell(got), plain.Tell(want))
				}
			}
		}
	})
	if found < 200 {
		t.Error("too few regions:", found)
	}
}

// The same of all regions of up to three acts, in whatever order the acts stand, that do not clash.
func TestP23_3AndE2OfManyRegions(t *testing.T) {
	t.Parallel()
	p := source(t, proof.Head+"(each (put ni (+ (own nj) i)) (put nb (own nb) (< (id) 2)) (push ni + out (+ (own nj) (via ei))) (push ni + in (farid) (own nb)) (push nj max out (far nb)) (push nb or in (via eb)))")
	acts := p.Stmts[0].Acts
	w := plain.Of(4, "01", "12", "22", "30", "30").Fill(p.Decls, 4)
	g, table := w.Graph(), w.Table()
	found := 0
	proof.Rows(3, acts, func(l []api.Act) {
		if _, wrong := clash.Region(l); wrong != api.OK {
			return
		}
		want, e := den.Region(p, l, g, table)
		if e != api.OK {
			t.Fatal(e)
		}
		found++
		for _, k := range []uint64{0, 7, 20} {
			if got := together(t, p, l, g, table, k); !got.Same(want) {
				t.Errorf("%v by %d: %s, not %s", l, k, plain.Tell(got), plain.Tell(want))
			}
		}
	})
	if found < 40 {
		t.Error("too few regions:", found)
	}
}

// way is an edge's end, as a node sees it, for an act.
type way struct{ from, to, tag int }

func TestP23_4MessagesGoAlongEdges(t *testing.T) {
	t.Parallel()
	sent := 0
	regions(t, func(p api.Program, l []api.Act) {
		for _, w := range plain.Filled(p.Decls, 1) {
			left := map[way]int{}
			for tag, a := range l {
				for _, edge := range w.Edges {
					if a.Kind == api.PushIt && a.In {
						left[way{edge.To, edge.From, tag}]++
					} else if a.Kind == api.PushIt {
						left[way{edge.From, edge.To, tag}]++
					}
				}
			}
			for v := range w.Nodes {
				messages, e := kernel.Sends(p, l, w.Graph(), w.Table(), v, uint64(sent))
				if e != api.OK {
					t.Fatal(e)
				}
				for _, m := range messages {
					sent++
					left[way{v, m.To, m.Tag}]--
				}
			}
			for at, n := range left {
				if n < 0 {
					t.Errorf("%v over %v: %d more messages than edges: %v", l, w.Edges, -n, at)
				}
			}
		}
	})
	if sent < 500 {
		t.Error("too few messages:", sent)
	}
}

func TestP3WhatIsHandedInStays(t *testing.T) {
	from, _ := region(t, "(put a (+ 1 (own b))) (push a + out (via w) (own c)) (push b max in (farid))")
	w := square()
	in := []api.Message{message(0, 1, 4), message(2, 2, 5), message(0, 2, 6), message(0, 1, 7)}
	for what, call := range map[string]func(p api.Program, l []api.Act, g *graph.Graph, table *column.Table, in []api.Message) any{
		"Puts": func(p api.Program, l []api.Act, g *graph.Graph, table *column.Table, _ []api.Message) any {
			got, _ := kernel.Puts(p, l, g, table, 0)
			return got
		},
		"Sends": func(p api.Program, l []api.Act, g *graph.Graph, table *column.Table, _ []api.Message) any {
			got, _ := kernel.Sends(p, l, g, table, 0, 3)
			return got
		},
		"Takes": func(p api.Program, l []api.Act, _ *graph.Graph, table *column.Table, in []api.Message) any {
			got, _ := kernel.Takes(p, l, table, 0, in)
			return got
		},
		"Ops": func(_ api.Program, l []api.Act, _ *graph.Graph, _ *column.Table, _ []api.Message) any {
			return kernel.Ops(l)
		},
	} {
		p := proof.Program(from)
		l, messages := proof.Roomy(p.Stmts[0].Acts, api.Act{Name: "spare"}), proof.Roomy(in, message(77, 77, 77))
		whole, acts, all := proof.Whole(p), slices.Clone(l[:cap(l)]), slices.Clone(messages[:cap(messages)])
		g, table := w.Graph(), w.Table()
		first, second := call(p, l, g, table, messages), call(p, l, g, table, messages)
		if proof.Whole(p) != whole || !slices.Equal(l[:cap(l)], acts) || !slices.Equal(messages[:cap(messages)], all) || !table.Same(w.Table()) {
			t.Errorf("%s: what was handed in changed", what)
		}
		if !proof.Apart(p, l, messages, first, second) {
			t.Errorf("%s: lists have memory in common", what)
		}
	}
}

// E1 and P6: the same calls come to the same, however often, in whatever order a map is gone through.
func TestP6NothingIsKeptBetweenCalls(t *testing.T) {
	acts := "(push a + out 1) (push b max in 2) (push c or out y) (push a + in 3)"
	for range 20 {
		wantTakes(t, acts, 2, []api.Message{message(2, 2, 1), message(2, 3, 9), message(2, 1, 50), message(2, 0, 5)}, "a=18 b=50 c=1")
		wantTakes(t, acts, 2, []api.Message{message(2, 2, 1), message(2, 3, 9), message(2, 1, 50)}, "b=50 c=1 a=13")
		wantSends(t, "(push a + out (own a) (own c))", 0, "1.0=1 1.0=1 2.0=1", "", "0.0=4 2.0=4", "")
		wantPuts(t, "(put a 1 true) (put b 2 false) (put c true y)", "a=1 c=1")
	}
}
