package ir_test

import (
	"slices"
	"testing"

	"reticule/api"
	"reticule/ir"
	"reticule/proof"
)

// asked calls all that take code, and tells what they answer.
func asked(c api.Code) (told, int) {
	for at := -2; at < len(c.List)+2; at++ {
		ir.Next(c, at)
	}
	ir.Reached(c)
	ir.Print(c)
	ir.Same(c, c)
	return check(c), ir.States(c)
}

// Programs of any numbers and names, and lists of any instructions: all calls end, and none panics.
func TestP1WhateverTheCode(t *testing.T) {
	t.Parallel()
	list := instrs("unless 2 3; set 0 0; jump 0 4; fold 1 0; send 3 0; take 3 0; unless 4 0; stop 0 0")
	wrong := 0
	proof.Mangled(source(t, several), func(p api.Program) {
		c := api.Code{Program: p, List: list}
		right := mayHave(p)
		got, states := asked(c)
		if want := plainCheck(c, right); got != want || states != 2 {
			t.Errorf("%v: %v, not %v", p, got, want)
		}
		if !right {
			wrong++
		}
		if d, e := ir.Parse(p, "0 stop\n"); (e == api.OK) != right || e != api.OK && (e != api.ErrForm || !isEmpty(d)) {
			t.Errorf("%v: %v, %d", p, d, e)
		}
	})
	if wrong < 500 {
		t.Error(wrong)
	}
}

func TestP3WhatIsHandedInStays(t *testing.T) {
	for _, text := range []string{"stop 0 0", "set 0 0", "unless 2 3; set 0 0; jump 0 4; fold 1 0; send 3 0; take 3 0; unless 4 0; jump 0 7", "jump 0 5; stop 0 0; eight 0 0"} {
		c := proof.Code(code(t, text))
		whole := proof.WholeCode(c)
		asked(c)
		ir.Same(c, code(t, "stop 0 0"))
		ir.Parse(c.Program, printed)
		if proof.WholeCode(c) != whole {
			t.Errorf("%s: it changed", text)
		}
	}
}

func TestP3WhatIsAnsweredIsTheCallers(t *testing.T) {
	for _, from := range append(proof.Fitting(), several, "", "(int i)", "(loop true)") {
		if what := proof.Shared(source(t, from), func(p api.Program) (api.Program, api.Errno) {
			c, e := ir.Parse(p, "0 stop\n")
			return c.Program, e
		}); what != "" {
			t.Errorf("%s: %s", from, what)
		}
	}
	c := code(t, "unless 2 3; set 0 0; jump 0 4; fold 1 0; stop 0 0")
	if what := proof.SharedCode(c, func(c api.Code) (api.Code, api.Errno) {
		s, _ := ir.Print(c)
		return ir.Parse(c.Program, s)
	}); what != "" {
		t.Error(what)
	}
	one, other := ir.Next(c, 0), ir.Next(c, 0)
	reached, again := ir.Reached(c), ir.Reached(c)
	if !proof.Apart(c, one, other, reached, again) {
		t.Error("lists have memory in common")
	}
	proof.Spoil(one, 99)
	proof.Spoil(reached, false)
	if !slices.Equal(ir.Next(c, 0), []int{1, 3}) || !slices.Equal(other, []int{1, 3}) || slices.Contains(ir.Reached(c), false) || slices.Contains(again, false) {
		t.Error("what was answered changes something")
	}
}
