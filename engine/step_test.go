package engine_test

import (
	"fmt"
	"math"
	"slices"
	"testing"

	"reticule/api"
	"reticule/engine"
	"reticule/plain"
)

// several is the text of a program with a statement of each kind that the normal form has: set at 0, fold at 1, if at 2, each at 3, while at 4.
const several = "(int i) (bool b) (nint a) (if b ((set i (+ i 1))) ((fold i + (own a)))) (while (< i 7) (each (push a + out (own a))))"

// star is four nodes of which three have edges to the node 0, one of them two.
func star() plain.World {
	return plain.Of(4, "10", "20", "30", "20").With("i", api.Scalar, api.Int, 5).With("b", api.Scalar, api.Bool, 1).With("a", api.OfNode, api.Int, 1, 2, 4, 8)
}

// inOrder are the messages of an engine, as they stand: Save tells them.
func inOrder(t *testing.T, e *engine.Engine) string {
	t.Helper()
	b, wrong := e.Save()
	if wrong != api.OK {
		t.Fatal(wrong)
	}
	text := ""
	for at := range len(e.Inbox()) {
		one := b[21+10*at:]
		text += fmt.Sprintf("%d.%d=%d ", one[0], one[1], one[9])
	}
	return text
}

// wantState asks where an engine stands, and what it answers.
func wantState(t *testing.T, what string, e *engine.Engine, at, steps int, halted bool, columns string, inbox, sent, most int) {
	t.Helper()
	if e.At() != at || e.Steps() != steps || e.Halted() != halted || plain.Tell(e.Table()) != columns || len(e.Inbox()) != inbox || e.Sent() != sent || e.Most() != most || len(e.Trace()) != steps {
		t.Errorf("%s: at %d, %d steps, %v, %s, %v, %d, %d, %v", what, e.At(), e.Steps(), e.Halted(), plain.Tell(e.Table()), e.Inbox(), e.Sent(), e.Most(), e.Trace())
	}
}

func TestP24_1NewStandsAtTheBeginning(t *testing.T) {
	c := coded(t, several, "send 3; take 3; stop")
	for _, s := range scripts() {
		e, m := both(t, c, star(), s)
		want(t, e, m)
		wantState(t, "New", e, 0, 0, false, "b=1 i=5 a[1 2 4 8]", 0, 0, 0)
	}
}

// Each instruction by itself, whatever the script.
func TestP24_2EachInstruction(t *testing.T) {
	yes := star()
	no := yes.With("b", api.Scalar, api.Bool, 0)
	for _, c := range []struct {
		words string
		w     plain.World
		at    int
		want  string
	}{
		{"stop", yes, 0, "b=1 i=5 a[1 2 4 8]"},
		{"set 0; stop", yes, 1, "b=1 i=6 a[1 2 4 8]"},
		{"fold 1; stop", yes, 1, "b=1 i=20 a[1 2 4 8]"},
		{"unless 2 2; set 0; stop", yes, 1, "b=1 i=5 a[1 2 4 8]"},
		{"unless 2 2; set 0; stop", no, 2, "b=0 i=5 a[1 2 4 8]"},
		{"unless 4 0; stop", yes, 1, "b=1 i=5 a[1 2 4 8]"},
		{"unless 4 0; stop", yes.With("i", api.Scalar, api.Int, 7), 0, "b=1 i=7 a[1 2 4 8]"},
		{"jump 2; set 0; stop", yes, 2, "b=1 i=5 a[1 2 4 8]"},
		{"jump 0", yes, 0, "b=1 i=5 a[1 2 4 8]"},
		{"send 3; take 3; stop", yes, 1, "b=1 i=5 a[1 2 4 8]"},
	} {
		code := coded(t, several, c.words)
		for _, s := range scripts() {
			e, m := both(t, code, c.w, s)
			if wrong := e.Step(); wrong != api.OK || e.At() != c.at || e.Steps() != 1 || e.Halted() != (c.words == "stop") || plain.Tell(e.Table()) != c.want {
				t.Errorf("%s: %d, at %d, %s", c.words, wrong, e.At(), plain.Tell(e.Table()))
			}
			m.step()
			want(t, e, m)
			steps(t, e, m, 20)
		}
	}
}

// What is sent hangs on the seed: on a multiple of 3 each worker combines it. What is taken does not.
func TestP24_2SendAndTake(t *testing.T) {
	code := coded(t, several, "send 3; take 3; stop")
	for _, c := range []struct {
		s    api.Script
		want string
	}{
		// No seeds are 0: all is combined.
		{api.Script{Workers: 1}, "0.0=18 "},
		{api.Script{Workers: 1, Seeds: []uint64{3}}, "0.0=18 "},
		{api.Script{Workers: 1, Seeds: []uint64{math.MaxUint64}}, "0.0=18 "}, // it is a multiple of 3
		{api.Script{Workers: 2, By: []int{0, 1, 0, 1}}, "0.0=8 0.0=10 "},
		{api.Script{Workers: 4, By: []int{0, 1, 2, 3}}, "0.0=2 0.0=8 0.0=8 "},
		{api.Script{Workers: 2, By: []int{0, 1, 1, 1}}, "0.0=18 "},
		// By 3 the worker 1 comes first, and all is turned once more.
		{api.Script{Workers: 2, By: []int{0, 1, 0, 1}, Seeds: []uint64{3}}, "0.0=8 0.0=10 "},
		{api.Script{Workers: 2, By: []int{0, 1, 0, 0}, Seeds: []uint64{3}}, "0.0=16 0.0=2 "},
		// By 1 the four nodes come as 0 1 3 2, and what they send is turned likewise.
		{api.Script{Workers: 1, Seeds: []uint64{1}}, "0.0=2 0.0=8 0.0=4 0.0=4 "},
		// By 4 as 0 3 1 2: 8, 2, 4 and 4; of these the first one, the last, the second and the third.
		{api.Script{Workers: 1, Seeds: []uint64{4}}, "0.0=8 0.0=4 0.0=2 0.0=4 "},
		// By 1 the worker 1 comes first: with 8 and 2, then 4 and 4; turned they are 8, 2, 4, 4.
		{api.Script{Workers: 2, By: []int{0, 1, 0, 1}, Seeds: []uint64{1}}, "0.0=8 0.0=2 0.0=4 0.0=4 "},
		// By 2 the workers, and the two nodes of each, come as they are; the four messages as 0 2 1 3.
		{api.Script{Workers: 2, By: []int{0, 1, 0, 1}, Seeds: []uint64{2}}, "0.0=4 0.0=2 0.0=4 0.0=8 "},
	} {
		e, m := both(t, code, star(), c.s)
		if e.Step() != api.OK || inOrder(t, e) != c.want {
			t.Errorf("%v: %s, not %s", c.s, inOrder(t, e), c.want)
		}
		m.step()
		want(t, e, m)
		if e.Step() != api.OK || plain.Tell(e.Table()) != "b=1 i=5 a[19 2 4 8]" || len(e.Inbox()) != 0 {
			t.Errorf("%v: %s", c.s, plain.Tell(e.Table()))
		}
		m.step()
		want(t, e, m)
	}
}

// The chapter's example.
func TestP24_4ExampleOfTwoWorkers(t *testing.T) {
	code := compiled(t, "(nint a) (each (push a + out (+ (id) 1)))")
	for _, s := range []api.Script{{Workers: 1}, {Workers: 2, By: []int{0, 1, 0, 1}}, {Workers: 2, By: []int{1, 1, 0, 0}, Seeds: []uint64{1, 5}}} {
		w := plain.Of(4, "13", "23", "03").Zeros(code.Program.Decls)
		e, _ := both(t, code, w, s)
		if n, wrong := e.Run(9); n != 3 || wrong != api.OK || plain.Tell(e.Table()) != "a[0 0 0 6]" {
			t.Error(n, wrong, plain.Tell(e.Table()))
		}
	}
}

// All is put and sent over the columns as they were; what is put stands there when it is sent, and ahead of what is taken.
func TestP24_2WhatIsPutAndSent(t *testing.T) {
	code := compiled(t, "(nint a) (nint b) (nint c) (each (put a (own b)) (put b (own a)) (push c + out (own a) (< (own a) 4)) (push c + in (own b)))")
	w := plain.Of(3, "01", "12", "20").With("a", api.OfNode, api.Int, 1, 2, 4).With("b", api.OfNode, api.Int, 10, 20, 40).With("c", api.OfNode, api.Int, 100, 200, 300)
	for _, s := range scripts() {
		e, m := both(t, code, w, s)
		if e.Step() != api.OK || plain.Tell(e.Table()) != "a[10 20 40] b[1 2 4] c[100 200 300]" {
			t.Errorf("%v: %s", s, plain.Tell(e.Table()))
		}
		m.step()
		want(t, e, m)
		if e.Step() != api.OK || plain.Tell(e.Table()) != "a[10 20 40] b[1 2 4] c[120 241 312]" {
			t.Errorf("%v: %s", s, plain.Tell(e.Table()))
		}
	}
}

// The fold takes the scalar itself in, and each node once whose condition is true.
func TestP24_2Fold(t *testing.T) {
	w := star()
	for from, c := range map[string]string{
		"(fold i + (own a))": "b=1 i=20 a[1 2 4 8]", "(fold i min (own a))": "b=1 i=1 a[1 2 4 8]", "(fold i max (own a))": "b=1 i=8 a[1 2 4 8]", "(fold i + 1)": "b=1 i=9 a[1 2 4 8]",
		"(fold i + (own a) (< (id) 2))": "b=1 i=8 a[1 2 4 8]", "(fold i max (own a) false)": "b=1 i=5 a[1 2 4 8]", "(fold i min 3 false)": "b=1 i=5 a[1 2 4 8]", "(fold i max (- 0 (own a)) (= (id) 3))": "b=1 i=5 a[1 2 4 8]",
		"(fold b and (< (own a) 8))": "b=0 i=5 a[1 2 4 8]", "(fold b and (< (own a) 9))": "b=1 i=5 a[1 2 4 8]", "(fold b or (< 8 (own a)))": "b=1 i=5 a[1 2 4 8]", "(fold b and false (< 8 (own a)))": "b=1 i=5 a[1 2 4 8]",
	} {
		code := compiled(t, "(int i) (bool b) (nint a) "+from)
		for _, s := range scripts() {
			e, m := both(t, code, w, s)
			if e.Step() != api.OK || plain.Tell(e.Table()) != c {
				t.Errorf("%s, %v: %s, not %s", from, s, plain.Tell(e.Table()), c)
			}
			m.step()
			want(t, e, m)
		}
	}
}

// A step's seed is that of how many were done, and from the first one on again.
func TestP24_2SeedsInTurn(t *testing.T) {
	code := coded(t, several, "send 3; take 3; jump 0")
	lists := [][]uint64{nil, {}, {3}, {1}, {0, 1}, {1, 0}, {1, 1, 0}, {1, 2, 3, 4, 5, 6, 7}, {2, 5}, {6, 9, 4}}
	for _, seeds := range lists {
		s := api.Script{Workers: 2, By: []int{0, 1, 1, 1}, Seeds: seeds}
		e, m := both(t, code, star(), s)
		var got []int
		for at := range 24 {
			if e.Step() != api.OK {
				t.Fatal(seeds)
			}
			m.step()
			want(t, e, m)
			if at%3 == 0 {
				got = append(got, len(e.Inbox()))
			}
		}
		for i, n := range got {
			k := uint64(0)
			if len(seeds) > 0 {
				k = seeds[3*i%len(seeds)]
			}
			if n != map[bool]int{true: 1, false: 4}[k%3 == 0] {
				t.Errorf("%v: the inbox %d has %d", seeds, i, n)
			}
		}
	}
}

func TestP24_2StepBehindStop(t *testing.T) {
	for words, at := range map[string]int{"stop": 0, "set 0; jump 3; stop; stop": 3, "send 3; take 3; stop": 2} {
		e, m := both(t, coded(t, several, words), star(), api.Script{Workers: 2, By: []int{0, 1}, Seeds: []uint64{2, 3}})
		steps(t, e, m, 9)
		if !e.Halted() || e.At() != at {
			t.Errorf("%s: %v, at %d", words, e.Halted(), e.At())
		}
		for range 3 {
			if wrong := e.Step(); wrong != api.ErrState {
				t.Errorf("%s: %d", words, wrong)
			}
			want(t, e, m)
			if n, wrong := e.Run(5); n != 0 || wrong != api.OK {
				t.Errorf("%s: %d, %d", words, n, wrong)
			}
			for _, most := range []int{math.MinInt, -1, 0} {
				if n, wrong := e.Run(most); n != 0 || wrong != api.OK {
					t.Errorf("%s: %d, %d", words, n, wrong)
				}
			}
			want(t, e, m)
		}
	}
}

// looping is code that takes 3 steps and 3 more for each round: 12 in all.
const looping = "(int i) (nint a) (while (< i 3) (set i (+ i 1))) (set i 9)"

func TestP24_3Run(t *testing.T) {
	c := compiled(t, looping)
	w := plain.Of(1).Zeros(c.Program.Decls)
	for _, most := range []int{12, 13, 400, api.MaxSteps, api.MaxSteps + 1, math.MaxInt} {
		e, m := both(t, c, w, api.Script{Workers: 1})
		if n, wrong := e.Run(most); n != 12 || wrong != api.OK {
			t.Errorf("%d: %d, %d", most, n, wrong)
		}
		for range 12 {
			m.step()
		}
		want(t, e, m)
	}
	for _, most := range []int{math.MinInt, -5, -1, 0, 1, 2, 5, 10, 11} {
		e, m := both(t, c, w, api.Script{Workers: 1})
		done := max(0, most)
		if n, wrong := e.Run(most); n != done || wrong != api.ErrCap {
			t.Errorf("%d: %d, %d", most, n, wrong)
		}
		for range done {
			m.step()
		}
		want(t, e, m)
		// It goes on from there.
		if n, wrong := e.Run(12 - done); n != 12-done || wrong != api.OK || e.Steps() != 12 {
			t.Errorf("%d more: %d, %d", 12-done, n, wrong)
		}
	}
}

// A run has at most MaxSteps, whatever it is allowed; the next one as many again.
func TestP24_3AndE4RunOfManySteps(t *testing.T) {
	c := coded(t, several, "jump 0")
	for _, most := range []int{api.MaxSteps - 1, api.MaxSteps, api.MaxSteps + 1, math.MaxInt} {
		e, _ := both(t, c, star(), api.Script{Workers: 1})
		for round := range 3 {
			n, wrong := e.Run(most)
			if n != min(most, api.MaxSteps) || wrong != api.ErrCap || e.Steps() != (round+1)*n || len(e.Trace()) != e.Steps() || e.Halted() {
				t.Errorf("%d: %d, %d, %d", most, n, wrong, e.Steps())
			}
		}
	}
	// What ends in MaxSteps does end; with one more it does not.
	long := compiled(t, "(int i) (int j) (set j 0) (while (< j 399) (set j (+ j 1)))")
	w := plain.Of(1).Zeros(long.Program.Decls)
	e, _ := both(t, long, w, api.Script{Workers: 1})
	if n, wrong := e.Run(math.MaxInt); n != api.MaxSteps || wrong != api.OK || !e.Halted() {
		t.Error(n, wrong)
	}
	longer := compiled(t, "(int i) (int j) (set j 0) (set i 1) (while (< j 399) (set j (+ j 1)))")
	e, _ = both(t, longer, w, api.Script{Workers: 1})
	if n, wrong := e.Run(math.MaxInt); n != api.MaxSteps || wrong != api.ErrCap || e.Halted() || e.At() != len(longer.List)-1 {
		t.Error(n, wrong, e.At())
	}
	if n, wrong := e.Run(1); n != 1 || wrong != api.OK || !e.Halted() || e.Steps() != api.MaxSteps+1 {
		t.Error(n, wrong)
	}
}

// What is told ahead of the first step, between a send and its take, behind that, and behind Stop.
func TestP24_3AndP24_6AtEachMoment(t *testing.T) {
	c := coded(t, several, "send 3; take 3; set 0; send 3; take 3; stop")
	e, _ := both(t, c, star(), api.Script{Workers: 4, By: []int{3, 2, 1, 0}, Seeds: []uint64{4, 4, 4, 3, 3, 3}})
	step := func() {
		t.Helper()
		if wrong := e.Step(); wrong != api.OK {
			t.Fatal(wrong)
		}
	}
	wantState(t, "ahead", e, 0, 0, false, "b=1 i=5 a[1 2 4 8]", 0, 0, 0)
	step()
	wantState(t, "sent", e, 1, 1, false, "b=1 i=5 a[1 2 4 8]", 4, 4, 4)
	if got := e.Inbox(); !slices.Equal(got, []api.Message{{Val: 2}, {Val: 4}, {Val: 4}, {Val: 8}}) {
		t.Error(got)
	}
	step()
	wantState(t, "taken", e, 2, 2, false, "b=1 i=5 a[19 2 4 8]", 0, 4, 4)
	step()
	wantState(t, "set", e, 3, 3, false, "b=1 i=6 a[19 2 4 8]", 0, 4, 4)
	step()
	wantState(t, "sent again", e, 4, 4, false, "b=1 i=6 a[19 2 4 8]", 3, 7, 4)
	step()
	wantState(t, "taken again", e, 5, 5, false, "b=1 i=6 a[37 2 4 8]", 0, 7, 4)
	step()
	wantState(t, "halted", e, 5, 6, true, "b=1 i=6 a[37 2 4 8]", 0, 7, 4)
	marks := []api.Mark{{At: 0, Kind: api.SendInstr, Messages: 4}, {At: 1, Kind: api.TakeInstr}, {At: 2, Kind: api.SetInstr}, {At: 3, Kind: api.SendInstr, Messages: 3}, {At: 4, Kind: api.TakeInstr}, {At: 5, Kind: api.Stop}}
	if got := e.Trace(); !slices.Equal(got, marks) {
		t.Error(got)
	}
}

// Most is that of the fullest inbox, not of the last one.
func TestP24_3MostStays(t *testing.T) {
	c := coded(t, several, "send 3; take 3; jump 0")
	for _, seeds := range [][]uint64{{3, 0, 0, 1, 0, 0, 6, 0, 0}, {1, 0, 0, 3, 0, 0, 3, 0, 0}} {
		e, _ := both(t, c, star(), api.Script{Workers: 1, Seeds: seeds})
		if n, wrong := e.Run(9); n != 9 || wrong != api.ErrCap || e.Most() != 4 || e.Sent() != 6 {
			t.Error(n, wrong, e.Most(), e.Sent())
		}
	}
}
