package engine_test

import (
	"math"
	"slices"
	"testing"

	"reticule/api"
	"reticule/column"
	"reticule/engine"
	"reticule/graph"
	"reticule/ir"
	"reticule/plain"
	"reticule/proof"
)

func TestP24_1NewOfScripts(t *testing.T) {
	c, w := coded(t, several, "set 0; stop"), star()
	for _, workers := range []int{math.MinInt, -1, 0, 1, 2, 3, 4, 5, 6, 12, 256, 257, 1 << 32, 1<<32 + 1, math.MaxInt} {
		for _, by := range [][]int{nil, {}, {0}, {3, 2, 1, 0}, {9, -9, 99, -99}, {0, 1, 2, 3, 4, 5, 6, 7, 8}, {math.MinInt, math.MaxInt}, make([]int, 100)} {
			for _, seeds := range [][]uint64{nil, {math.MaxUint64}} {
				e := engine.New(c, w.Graph(), w.Table(), api.Script{Workers: workers, By: by, Seeds: seeds})
				if (e != nil) != (workers >= 1 && workers <= 4) {
					t.Errorf("%d, %v: %v", workers, by, e)
				}
			}
		}
	}
	if engine.New(c, w.Graph(), w.Table(), api.Script{}) != nil {
		t.Error("no workers")
	}
}

// A worker's number is that of By modulo how many there are; what is too short leaves nodes to the worker 0.
func TestP24_1WhoseTheNodesAre(t *testing.T) {
	code := coded(t, several, "send 3; take 3; stop")
	for _, c := range []struct {
		workers, want int
		by            []int
	}{
		{1, 1, nil}, {1, 1, []int{5, 6, 7, 8}}, {2, 1, nil}, {2, 2, []int{0, 1}}, {2, 2, []int{0, 0, 0, 1}}, {2, 1, []int{0, 2, -2, 4}}, {2, 2, []int{0, 2, -1, 4}},
		{3, 3, []int{0, -1, -2, -3}}, {3, 2, []int{0, 1, 4, 8, 0, 1, 2}}, {4, 3, []int{1, 1, 2, 3}}, {4, 1, []int{0, 1, 1, 1}}, {4, 1, []int{9, 5, -3, 1, 2}},
	} {
		e, m := both(t, code, star(), api.Script{Workers: c.workers, By: c.by})
		if e.Step() != api.OK || len(e.Inbox()) != c.want {
			t.Errorf("%d, %v: %v", c.workers, c.by, e.Inbox())
		}
		m.step()
		want(t, e, m)
	}
}

func TestP24_1NewIsRefused(t *testing.T) {
	w := star()
	right := coded(t, several, "set 0; stop")
	wrong := api.Code{Program: right.Program, List: right.List[:1]}
	g, table := w.Graph(), w.Table()
	other := w.With("a", api.OfNode, api.Bool, 1, 0, 1, 0).Table()
	for i, c := range []struct {
		code  api.Code
		graph *graph.Graph
		table *column.Table
		want  bool
	}{
		{right, g, table, true},
		{right, nil, table, false}, {right, g, nil, false}, {right, nil, nil, false}, {api.Code{}, nil, nil, false},
		{wrong, g, table, false}, {api.Code{}, g, table, false}, {api.Code{Program: right.Program}, g, table, false}, {api.Code{List: right.List}, g, table, false},
		{api.Code{Program: right.Program, List: []api.Instr{{Kind: api.Jump, To: 1}}}, g, table, false}, {api.Code{Program: right.Program, List: []api.Instr{{Kind: api.SendInstr, At: 3}, {Kind: api.Stop}}}, g, table, false},
		{api.Code{Program: source(t, "(loop true)"), List: right.List[1:]}, g, table, false}, {api.Code{Program: source(t, "(set i 1)"), List: right.List[1:]}, g, table, false}, {api.Code{Program: source(t, "(nint a) (each (put a 1) (put a 1))"), List: right.List[1:]}, g, table, false},
		// Columns that do not fit: of another kind, not there, of more or fewer nodes or edges.
		{right, g, other, false}, {right, g, column.New(4, 4), false}, {right, g, plain.Of(3, "10", "20", "01", "02").Zeros(right.Program.Decls).Table(), false}, {right, g, plain.Of(4, "10").Zeros(right.Program.Decls).Table(), false}, {right, graph.New(5, make([]api.Edge, 4)), table, false}, {right, graph.New(4, nil), table, false},
		{right, g, plain.Of(4, "10", "20", "30", "20").With("i", api.OfNode, api.Int, 0, 0, 0, 0).With("b", api.Scalar, api.Bool, 1).With("a", api.OfNode, api.Int, 1, 2, 4, 8).Table(), false},
		// Other edges, as many of them, do; and columns that the program does not declare.
		{right, graph.New(4, make([]api.Edge, 4)), table, true}, {right, g, w.With("zz", api.OfEdge, api.Bool, 1, 0, 1, 1).Table(), true},
	} {
		for _, s := range scripts() {
			if e := engine.New(c.code, c.graph, c.table, s); (e != nil) != c.want {
				t.Errorf("%d, %v: %v", i, s, e)
			}
		}
	}
}

func TestP24_1ProgramsThatAreNotSound(t *testing.T) {
	for what, spoil := range proof.Spoilers() {
		c := compiled(t, proof.Sturdy)
		w := plain.Of(2, "01").Zeros(c.Program.Decls)
		b := (&machine{code: c, world: w, script: api.Script{Workers: 1}}).bytes()
		if _, wrong := engine.Load(c, w.Graph(), api.Script{Workers: 1}, b); wrong != api.OK {
			t.Fatal(wrong)
		}
		spoil(&c.Program)
		if engine.New(c, w.Graph(), w.Table(), api.Script{Workers: 1}) != nil {
			t.Error(what)
		}
		wantNotLoaded(t, what, c, w.Graph(), api.Script{Workers: 1}, b)
	}
}

func TestP1NilAnswersNothing(t *testing.T) {
	var e *engine.Engine
	if e.Step() != api.ErrNil || e.Halted() || e.Steps() != 0 || e.At() != 0 || e.Table() != nil || len(e.Inbox()) != 0 || e.Sent() != 0 || e.Most() != 0 || e.Fork() != nil || len(e.Trace()) != 0 {
		t.Error("nil answers something")
	}
	for _, most := range []int{math.MinInt, -1, 0, 1, math.MaxInt} {
		if n, wrong := e.Run(most); n != 0 || wrong != api.ErrNil {
			t.Error(n, wrong)
		}
	}
	if b, wrong := e.Save(); len(b) != 0 || wrong != api.ErrNil {
		t.Error(b, wrong)
	}
}

// Code of any numbers and names, and bytes of any kind: all calls end, and none panics.
func TestP1WhateverTheCode(t *testing.T) {
	t.Parallel()
	c := compiled(t, several)
	w := star()
	s := api.Script{Workers: 2, By: []int{0, 1, 1}, Seeds: []uint64{3, 2}}
	g, table := w.Graph(), w.Table()
	right, wrong := 0, 0
	look := func(d api.Code) {
		e := engine.New(d, g, table, s)
		if _, not := ir.Check(d); not != api.OK && e != nil {
			t.Errorf("%v", d)
		}
		if e == nil {
			wrong++
			return
		}
		right++
		e.Run(30)
	}
	proof.Mangled(c.Program, func(q api.Program) { look(api.Code{Program: q, List: c.List}) })
	for at := range c.List {
		for kind := range 10 {
			for _, n := range []int{math.MinInt, -1, 0, 1, 3, 4, 7, 12, math.MaxInt} {
				for _, i := range []api.Instr{{Kind: api.InstrKind(kind), At: n}, {Kind: api.InstrKind(kind), At: c.List[at].At, To: n}, {Kind: api.InstrKind(kind), At: n, To: n}} {
					d := proof.Code(c)
					d.List[at] = i
					look(d)
				}
			}
		}
	}
	if right < 20 || wrong < 1000 {
		t.Error(right, wrong)
	}
	proof.Rows(3, []byte{0, 1, 255}, func(l []byte) {
		for _, times := range []int{1, 7, 20, 60} {
			wantNotLoaded(t, "bytes", c, g, s, slices.Repeat(l, times))
		}
	})
}
