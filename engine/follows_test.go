package engine_test

import (
	"fmt"
	"slices"
	"testing"

	"reticule/api"
	"reticule/engine"
	"reticule/gen"
	"reticule/kernel"
	"reticule/plain"
	"reticule/proof"
)

// Whatever the script, an engine comes to what gen.Run does, in as many steps.
func TestP24_4AndE2AndE3OfPrograms(t *testing.T) {
	t.Parallel()
	ends, capped := 0, 0
	for at, text := range texts() {
		c := compiled(t, text)
		for i, w := range plain.Filled(c.Program.Decls, 1) {
			if (at+i)%3 != 0 {
				continue
			}
			u, many, wrong := gen.Run(c, w.Graph(), w.Table(), 200)
			for _, s := range scripts() {
				e := engine.New(c, w.Graph(), w.Table(), s)
				n, also := e.Run(200)
				if also != wrong || wrong == api.OK && (n != many || !e.Table().Same(u) || !e.Halted()) || wrong == api.ErrCap && n != 200 {
					t.Errorf("%s over %v, %v: %d, %d, not %d, %d", text, w, s, n, also, many, wrong)
				}
				if wrong == api.OK {
					ends++
				} else {
					capped++
				}
			}
		}
	}
	if ends < 500 || capped < 9 {
		t.Error("too few runs:", ends, capped)
	}
}

// The same of each step, by the model: over all graphs, by scripts in turn.
func TestP24_2AndP24_4EachStepByTheModel(t *testing.T) {
	t.Parallel()
	many := 0
	for _, text := range texts() {
		c := compiled(t, text)
		for _, w := range plain.Filled(c.Program.Decls, 1) {
			s := scripts()[many%len(scripts())]
			many++
			e, m := both(t, c, w, s)
			steps(t, e, m, 40)
		}
	}
	if many < 200 {
		t.Error(many)
	}
}

// The same of all code of a few instructions, most of which no program has.
func TestP24_2OfAllShortCode(t *testing.T) {
	t.Parallel()
	p := source(t, several)
	some := []api.Instr{{Kind: api.SetInstr, At: 0}, {Kind: api.FoldInstr, At: 1}, {Kind: api.SendInstr, At: 3}, {Kind: api.TakeInstr, At: 3}, {Kind: api.Stop}}
	for to := range 3 {
		some = append(some, api.Instr{Kind: api.Jump, To: to}, api.Instr{Kind: api.Unless, At: 2 + to%2*2, To: to})
	}
	w := star()
	right, wrong := 0, 0
	proof.Rows(3, some, func(l []api.Instr) {
		c := api.Code{Program: p, List: l}
		s := scripts()[right%len(scripts())]
		u, n, e := gen.Run(c, w.Graph(), w.Table(), 20)
		if e == api.ErrForm {
			wrong++
			if engine.New(c, w.Graph(), w.Table(), s) != nil {
				t.Errorf("%v may not be run", l)
			}
			return
		}
		right++
		one, m := both(t, c, w, s)
		steps(t, one, m, 20)
		if e == api.OK && (!one.Halted() || one.Steps() != n || !one.Table().Same(u)) {
			t.Errorf("%v: %d steps", l, one.Steps())
		}
	})
	if right < 100 || wrong < 100 {
		t.Error("too few:", right, wrong)
	}
}

// What an inbox has: at most one message for each act and edge; where it is combined, at most one for each worker, node and tag.
func TestP24_5WhatIsInAnInbox(t *testing.T) {
	t.Parallel()
	apart, together := 0, 0
	for at, text := range texts() {
		c := compiled(t, text)
		for i, w := range plain.Filled(c.Program.Decls, 1) {
			s := scripts()[(at+i)%len(scripts())]
			e := engine.New(c, w.Graph(), w.Table(), s)
			for range 30 {
				k := uint64(0)
				if len(s.Seeds) > 0 {
					k = s.Seeds[e.Steps()%len(s.Seeds)]
				}
				instr := c.List[e.At()]
				if e.Step() != api.OK {
					break
				}
				if instr.Kind != api.SendInstr {
					continue
				}
				acts := c.Program.Stmts[instr.At].Acts
				wantFew(t, text, e.Inbox(), acts, w, s, k)
				if k%3 == 0 {
					together += len(e.Inbox())
				} else {
					apart += len(e.Inbox())
				}
			}
		}
	}
	if apart < 100 || together < 100 {
		t.Error("too few messages:", apart, together)
	}
}

// wantFew asks that an inbox has no more than may be.
func wantFew(t *testing.T, what string, inbox []api.Message, acts []api.Act, w plain.World, s api.Script, k uint64) {
	t.Helper()
	have := map[[2]int]int{}
	for _, m := range inbox {
		have[[2]int{m.To, m.Tag}]++
	}
	edges := map[[2]int]int{}
	for tag, o := range kernel.Ops(acts) {
		for _, edge := range w.Edges {
			if o != api.NoOp && acts[tag].In {
				edges[[2]int{edge.From, tag}]++
			} else if o != api.NoOp {
				edges[[2]int{edge.To, tag}]++
			}
		}
	}
	for at, n := range have {
		if n > edges[at] || k%3 == 0 && n > s.Workers {
			t.Errorf("%s, %v: %d messages to %d", what, s, n, at)
		}
	}
}

// Load of Save at each step goes on as the engine does.
func TestP24_8LoadOfSaveGoesOn(t *testing.T) {
	t.Parallel()
	many := 0
	for at, text := range texts() {
		c := compiled(t, text)
		w := plain.Shapes()[at%len(plain.Shapes())].Fill(c.Program.Decls, uint64(at))
		s := scripts()[at%len(scripts())]
		e := engine.New(c, w.Graph(), w.Table(), s)
		for range 12 {
			b, wrong := e.Save()
			if wrong != api.OK {
				t.Fatal(wrong)
			}
			f, wrong := engine.Load(c, w.Graph(), s, b)
			if wrong != api.OK {
				t.Fatal(text, wrong)
			}
			done := len(e.Trace())
			one := e.Fork()
			for range 5 {
				if len(f.Trace()) != len(one.Trace())-done || withoutTrace(f) != withoutTrace(one) || !slices.Equal(f.Trace(), one.Trace()[done:]) {
					t.Fatalf("%s, %v: %s, not %s", text, s, tell(f), tell(one))
				}
				if one.Step() != f.Step() {
					t.Fatal(text)
				}
			}
			many++
			if e.Step() != api.OK {
				break
			}
		}
	}
	if many < 100 {
		t.Error(many)
	}
}

// withoutTrace is all that an engine answers but its trace.
func withoutTrace(e *engine.Engine) string {
	b, wrong := e.Save()
	return fmt.Sprint(e.Halted(), e.Steps(), e.At(), plain.Tell(e.Table()), e.Inbox(), e.Sent(), e.Most(), b, wrong)
}
