package gen_test

import (
	"testing"

	"reticule/api"
	"reticule/gen"
	"reticule/plain"
	"reticule/prog"
	"reticule/proof"
)

// calls are those that make code of other code.
func calls() map[string]func(api.Code) (api.Code, api.Errno) {
	return map[string]func(api.Code) (api.Code, api.Errno){"Merged": gen.Merged, "Pruned": gen.Pruned}
}

// wantForm asks that nothing is done with a program, and code of it.
func wantForm(t *testing.T, what string, p api.Program, list []api.Instr, w plain.World) {
	t.Helper()
	if c, e := gen.Compile(p); e != api.ErrForm || !isEmpty(c) {
		t.Errorf("%s: Compile: %v, %d", what, c, e)
	}
	c := api.Code{Program: p, List: list}
	for name, call := range calls() {
		if d, e := call(c); e != api.ErrForm || !isEmpty(d) {
			t.Errorf("%s: %s: %v, %d", what, name, d, e)
		}
	}
	if u, n, e := gen.Run(c, w.Graph(), w.Table(), 99); u != nil || n != 0 || e != api.ErrForm {
		t.Errorf("%s: Run: %v, %d, %d", what, u, n, e)
	}
}

func TestP20_1ToP20_6ProgramsThatAreNotSound(t *testing.T) {
	for what, spoil := range proof.Spoilers() {
		p := source(t, proof.Sturdy)
		c, e := gen.Compile(p)
		if e != api.OK {
			t.Fatal(e)
		}
		w := plain.Of(2, "01").Zeros(p.Decls)
		spoil(&p)
		if prog.Sound(p) {
			t.Fatal(what)
		}
		wantForm(t, what, p, c.List, w)
		wantForm(t, what, p, []api.Instr{{Kind: api.Stop}}, w)
	}
}

// Programs of any numbers and names, and lists of any instructions: all calls end, and none panics.
func TestP1WhateverTheCode(t *testing.T) {
	t.Parallel()
	p := source(t, several)
	c, _ := gen.Compile(p)
	w := chain()
	right, wrong := 0, 0
	proof.Mangled(p, func(q api.Program) {
		if !mayHave(q) {
			wrong++
			wantForm(t, text(q), q, c.List, w)
			return
		}
		right++
		d, e := gen.Compile(q)
		if e != api.OK || !prog.Same(d.Program, q) {
			t.Errorf("%v: %v, %d", q, d, e)
		}
		gen.Run(d, w.Graph(), w.Table(), 99)
		gen.Run(api.Code{Program: q, List: c.List}, w.Graph(), w.Table(), 99)
	})
	if right < 10 || wrong < 500 {
		t.Error(right, wrong)
	}
	for at := range c.List {
		for kind := range 10 {
			for _, n := range []int{-1 << 63, -1, 0, 1, 3, 4, 7, 12, 1<<63 - 1} {
				for _, i := range []api.Instr{{Kind: api.InstrKind(kind), At: n}, {Kind: api.InstrKind(kind), At: c.List[at].At, To: n}, {Kind: api.InstrKind(kind), At: n, To: n}} {
					d := proof.Code(c)
					d.List[at] = i
					gen.Run(d, w.Graph(), w.Table(), 99)
					for _, call := range calls() {
						call(d)
					}
				}
			}
		}
	}
}

// What is handed in stays, and what comes out shares nothing with it, nor with what came out ahead.
func TestP3CodeIsTheCallers(t *testing.T) {
	for _, from := range append(append(proof.Fitting(), nested()...), several, "", "(int i)", "(while true)", "(loop true)") {
		if what := proof.Shared(source(t, from), func(p api.Program) (api.Program, api.Errno) {
			c, e := gen.Compile(p)
			return c.Program, e
		}); what != "" {
			t.Errorf("%s: %s", from, what)
		}
		if what := proof.SharedCode(api.Code{Program: source(t, from)}, func(c api.Code) (api.Code, api.Errno) { return gen.Compile(c.Program) }); what != "" {
			t.Errorf("%s: %s", from, what)
		}
	}
	for _, words := range []string{"stop", "jump 1; jump 2; stop", "jump 2; set 0; unless 2 4; jump 2; stop; stop", "unless 4 3; send 3; take 3; jump 1", "set 0; fold 1; stop; jump 3"} {
		for name, call := range calls() {
			if what := proof.SharedCode(code(t, several, words), call); what != "" {
				t.Errorf("%s of %s: %s", name, words, what)
			}
		}
	}
	for name, call := range calls() {
		if what := proof.SharedCode(api.Code{Program: source(t, several), List: []api.Instr{{Kind: api.SetInstr}}}, call); what != "" {
			t.Errorf("%s of what may not be run: %s", name, what)
		}
	}
}
