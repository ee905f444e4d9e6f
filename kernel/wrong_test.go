package kernel_test

import (
	"math"
	"slices"
	"testing"

	"reticule/api"
	"reticule/column"
	"reticule/graph"
	"reticule/kernel"
	"reticule/prog"
	"reticule/proof"
)

// wantWrong asks that Puts and Sends have an error, and Takes too, if that has it.
func wantWrong(t *testing.T, what string, p api.Program, l []api.Act, g *graph.Graph, table *column.Table, v int, want, takes api.Errno) {
	t.Helper()
	if got, e := kernel.Puts(p, l, g, table, v); e != want || len(got) != 0 {
		t.Errorf("%s: Puts: %v, %d, not %d", what, got, e, want)
	}
	for _, k := range seeds() {
		if got, e := kernel.Sends(p, l, g, table, v, k); e != want || len(got) != 0 {
			t.Errorf("%s: Sends: %v, %d, not %d", what, got, e, want)
		}
	}
	in := []api.Message{message(v, 0, 1), message(v, 1, 1), message(v, 2, 1)}
	if got, e := kernel.Takes(p, l, table, v, in); e != takes || len(got) != 0 {
		t.Errorf("%s: Takes: %v, %d, not %d", what, got, e, takes)
	}
}

// badActs are acts that may not be done, each for one reason, of a program with so many expressions.
func badActs(exprs int) map[string]api.Act {
	bad := map[string]api.Act{}
	put, push := api.Act{Kind: api.PutIt, Name: "a", Cond: -1}, api.Act{Kind: api.PushIt, Name: "a", Op: api.Add, Cond: -1}
	for name, kind := range map[string]api.ActKind{"none": api.NoAct, "pull": api.PullIt, "4": 4, "255": 255} {
		a := push
		a.Kind = kind
		bad["a kind: "+name] = a
	}
	for name, n := range map[string]int{"least": math.MinInt, "-2": -2, "-1": -1, "the end": exprs, "behind": exprs + 1, "256": 256, "2^32": 1 << 32, "greatest": math.MaxInt} {
		for what, a := range map[string]api.Act{"put": put, "push": push} {
			a.E = n
			bad[what+" of an E: "+name] = a
			a.E, a.Cond = 0, n
			if n != -1 {
				bad[what+" of a Cond: "+name] = a
			}
		}
	}
	for o := range 256 {
		if !slices.Contains([]api.Op{api.Add, api.Min, api.Max, api.And, api.Or}, api.Op(o)) {
			a := push
			a.Op = api.Op(o)
			bad["push by "+string(rune('0'+o))] = a
		}
	}
	return bad
}

func TestP23_1AndP23_2ActsThatMayNotBeDone(t *testing.T) {
	p, l := region(t, "(put a 1) (push a + out 2 (own c))")
	w := square()
	g, table := w.Graph(), w.Table()
	if len(badActs(len(p.Exprs))) < 250 {
		t.Error(len(badActs(len(p.Exprs))))
	}
	for what, bad := range badActs(len(p.Exprs)) {
		for _, m := range [][]api.Act{{bad}, {bad, l[0], l[1]}, {l[0], l[1], bad}, {l[0], bad, l[1]}} {
			wantWrong(t, what, p, m, g, table, 1, api.ErrRange, api.ErrRange)
			if got, e := kernel.Takes(p, m, table, 1, nil); e != api.ErrRange || len(got) != 0 {
				t.Errorf("%s: Takes of none: %v, %d", what, got, e)
			}
		}
		// An act that may not be done comes ahead of all that has an error; a program that can not be ahead of it.
		wantWrong(t, what+", at no node", p, []api.Act{l[0], bad}, g, table, 4, api.ErrRange, api.ErrRange)
		wantWrong(t, what+", without columns", p, []api.Act{bad}, g, column.New(1, 0), 0, api.ErrRange, api.ErrRange)
		wantWrong(t, what+", of nothing", api.Program{Main: []int{0}}, []api.Act{bad}, g, table, 1, api.ErrForm, api.ErrForm)
		wantWrong(t, what+", of nil", p, []api.Act{bad}, g, nil, 1, api.ErrNil, api.ErrNil)
		wantWrong(t, what+", of no graph", p, []api.Act{bad}, nil, table, 1, api.ErrNil, api.ErrRange)
	}
}

// What puts may have any operation, and In is of no matter to it.
func TestP23_1WhatPutsMayHaveAnOperation(t *testing.T) {
	p, l := region(t, "(put a 7)")
	w := square()
	for o := range 256 {
		a := l[0]
		a.Op, a.In = api.Op(o), o%2 == 1
		if got, e := kernel.Puts(p, []api.Act{a}, w.Graph(), w.Table(), 3); e != api.OK || tellWrites(got) != "a=7" {
			t.Error(o, got, e)
		}
		if got := kernel.Ops([]api.Act{a}); !slices.Equal(got, []api.Op{api.NoOp}) {
			t.Error(o, got)
		}
	}
}

func TestP23_1NodesThatAreNone(t *testing.T) {
	w := square()
	p, l := region(t, "(put a 1) (push a + out 1)")
	for _, v := range []int{math.MinInt, -1 << 32, -256, -1, 4, 5, 12, 256, 1 << 32, math.MaxInt} {
		wantWrong(t, "no node", p, l, w.Graph(), w.Table(), v, api.ErrRange, api.ErrRange)
		// Also where columns have more nodes than the graph, and where there are no acts.
		if got, e := kernel.Puts(p, nil, w.Graph(), column.New(12, 0), v); e != api.ErrRange || len(got) != 0 {
			t.Error(v, got, e)
		}
		if got, e := kernel.Sends(p, nil, w.Graph(), column.New(12, 0), v, 0); e != api.ErrRange || len(got) != 0 {
			t.Error(v, got, e)
		}
		if got, e := kernel.Takes(p, nil, w.Table(), v, nil); e != api.OK || len(got) != 0 {
			t.Error(v, got, e)
		}
	}
}

func TestP1AndP23_1NilAndProgramsThatAreNotSound(t *testing.T) {
	w := square()
	g, table := w.Graph(), w.Table()
	p, l := region(t, "(put a 1) (push a + out 1)")
	unsound := api.Program{Main: []int{0}}
	for what, q := range map[string]api.Program{"a program": p, "none": {}, "one that can not be": unsound} {
		form := api.ErrForm
		if what != "one that can not be" {
			form = api.OK
		}
		if what == "none" {
			form = api.ErrRange // it has no expressions
		}
		for _, v := range []int{1, -1, 4} {
			wantWrong(t, what, q, l, g, nil, v, api.ErrNil, api.ErrNil)
			wantWrong(t, what, q, l, nil, nil, v, api.ErrNil, api.ErrNil)
			if form != api.OK {
				wantWrong(t, what, q, l, nil, table, v, api.ErrNil, form)
				wantWrong(t, what, q, l, g, table, v, form, form)
			}
		}
	}
	if got, e := kernel.Puts(p, l, nil, table, 1); e != api.ErrNil || len(got) != 0 {
		t.Error(got, e)
	}
	if got, e := kernel.Sends(p, l, nil, table, 1, 3); e != api.ErrNil || len(got) != 0 {
		t.Error(got, e)
	}
	for what, spoil := range proof.Spoilers() {
		q := source(t, proof.Sturdy)
		acts := slices.Clone(q.Stmts[1].Acts)
		spoil(&q)
		wantWrong(t, what, q, acts, g, table, 1, api.ErrForm, api.ErrForm)
		wantWrong(t, what, q, nil, g, table, 9, api.ErrForm, api.ErrForm)
		wantWrong(t, what, q, acts, g, nil, 1, api.ErrNil, api.ErrNil)
	}
}

// Programs and acts of any numbers and names: all calls end, and none panics.
func TestP1WhateverTheProgram(t *testing.T) {
	t.Parallel()
	p := source(t, proof.Sturdy)
	w := square().With("ni", api.OfNode, api.Int, 1, 2, 3, 4).With("nb", api.OfNode, api.Bool, 1, 0, 0, 1)
	g, table := w.Graph(), w.Table()
	right, wrong := 0, 0
	proof.Mangled(p, func(q api.Program) {
		for at := range q.Stmts {
			l := q.Stmts[at].Acts
			for _, v := range []int{-1, 0, 2, math.MaxInt} {
				_, e := kernel.Puts(q, l, g, table, v)
				_, also := kernel.Sends(q, l, g, table, v, 5)
				_, takes := kernel.Takes(q, l, table, v, []api.Message{message(v, 0, 7), message(v, 1, 7)})
				if !prog.Sound(q) {
					wrong++
					if e != api.ErrForm || also != api.ErrForm || takes != api.ErrForm {
						t.Errorf("%v: %d, %d, %d", q, e, also, takes)
					}
				} else if e == api.OK && also == api.OK {
					right++
				}
			}
			kernel.Ops(l)
		}
	})
	if right < 50 || wrong < 1000 {
		t.Error(right, wrong)
	}
	kernel.Ops(nil)
	kernel.Puts(api.Program{}, nil, nil, nil, 0)
	kernel.Sends(api.Program{}, nil, nil, nil, 0, 0)
	kernel.Takes(api.Program{}, nil, nil, 0, nil)
}
