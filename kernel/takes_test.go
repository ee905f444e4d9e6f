package kernel_test

import (
	"math"
	"slices"
	"testing"

	"reticule/api"
	"reticule/column"
	"reticule/kernel"
	"reticule/proof"
)

func message(to, tag int, val api.Word) api.Message {
	return api.Message{To: to, Tag: tag, Val: val}
}

func TestP23_2Takes(t *testing.T) {
	// Of no messages, or of such as are to other nodes, there is nothing.
	for _, in := range [][]api.Message{nil, {}, {message(0, 0, 1), message(2, 0, 1), message(-1, 0, 1), message(99, 0, 1)}} {
		wantTakes(t, "(push a + out 1)", 1, in, "")
	}
	wantTakes(t, "(push a + out 1)", 1, []api.Message{message(1, 0, 5)}, "a=7")
	wantTakes(t, "(push a + out 1)", 1, []api.Message{message(1, 0, 5), message(2, 0, 100), message(1, 0, -9)}, "a=-2")
	wantTakes(t, "(push a min in 1)", 3, []api.Message{message(3, 0, 5), message(3, 0, 6)}, "a=5")
	wantTakes(t, "(push a max in 1)", 3, []api.Message{message(3, 0, 5), message(3, 0, 6)}, "a=8")
	wantTakes(t, "(push c or out y)", 1, []api.Message{message(1, 0, 0), message(1, 0, 1)}, "c=1")
	wantTakes(t, "(push c and out y)", 0, []api.Message{message(0, 0, 0), message(0, 0, 1)}, "c=0")
	wantTakes(t, "(push a + out 1)", 1, []api.Message{message(1, 0, math.MaxInt64)}, "a=-9223372036854775807")
	// What comes to the same as ahead is told, too.
	wantTakes(t, "(push a + out 1)", 1, []api.Message{message(1, 0, 0)}, "a=2")
	// Neither E nor Cond is looked at: who sent has done that.
	wantTakes(t, "(push a + out (own zz) (own zz))", 1, []api.Message{message(1, 0, 1)}, "a=3")
	wantTakes(t, "(push a + out 1 false)", 1, []api.Message{message(1, 0, 1)}, "a=3")
}

// Each name stands at the place of its first act of which there is a message, with its last value.
func TestP23_2TakesOfSeveralActs(t *testing.T) {
	acts := "(push a + out 1) (push b max in 2) (put c true) (push a min out 3)"
	for _, c := range []struct {
		in   []api.Message
		want string
	}{
		{[]api.Message{message(2, 0, 5)}, "a=9"},
		{[]api.Message{message(2, 1, 50), message(2, 0, 5)}, "a=9 b=50"},
		{[]api.Message{message(2, 3, -1), message(2, 1, 50)}, "b=50 a=-1"},
		{[]api.Message{message(2, 3, 6), message(2, 0, 5), message(2, 1, 1)}, "a=6 b=30"},
		{[]api.Message{message(2, 3, 6), message(2, 0, 5), message(2, 3, 7), message(2, 0, 1)}, "a=6"},
		// Tags that are what is put, or no act's place, are nobody's.
		{[]api.Message{message(2, 2, 5), message(2, 4, 5), message(2, -1, 5), message(2, math.MaxInt, 5), message(2, math.MinInt, 5), message(2, 256, 5), message(2, 1<<32, 5)}, ""},
		{[]api.Message{message(2, 2, 5), message(2, 4, 5), message(2, 1, 31), message(1, 0, 5)}, "b=31"},
	} {
		wantTakes(t, acts, 2, c.in, c.want)
	}
	// The second of one name goes on from what the first one wrote: 4 and 5 are 9, of which 7 is the least.
	wantTakes(t, "(push a + out 1) (push a min out 1) (push a + in 1)", 2, []api.Message{message(2, 2, 100), message(2, 1, 7), message(2, 0, 5)}, "a=107")
	wantTakes(t, "(push a min out 1) (push a + out 1) (push a max in 1)", 2, []api.Message{message(2, 2, -5), message(2, 1, 5), message(2, 0, 1)}, "a=6")
	wantTakes(t, "(push a + out 1) (push b + out 1) (push a + out 1) (push b + out 1) (push a + out 1)", 0, []api.Message{message(0, 4, 1), message(0, 3, 2), message(0, 2, 4), message(0, 1, 8), message(0, 0, 16)}, "a=22 b=20")
	wantTakes(t, "(put a 1) (put b 2 true)", 0, []api.Message{message(0, 0, 1), message(0, 1, 2)}, "")
}

// More acts than a region may have: their places are tags all the same.
func TestP23_2TakesOfManyActs(t *testing.T) {
	p, one := region(t, "(push a + out 1)")
	w := square()
	l := slices.Repeat(one, 40)
	if got, e := kernel.Takes(p, l, w.Table(), 2, []api.Message{message(2, 39, 6), message(2, 40, 100), message(2, 17, 10)}); e != api.OK || tellWrites(got) != "a=20" {
		t.Error(got, e)
	}
	if got, e := kernel.Sends(p, l, w.Graph(), w.Table(), 2, 0); e != api.OK || len(got) != 80 || got[79] != message(2, 39, 1) {
		t.Error(got, e)
	}
	for _, k := range seeds() {
		wantModel(t, p, l, w, w.Table(), 2, k)
	}
}

// All rows of up to two acts and three messages, by the model.
func TestP23_2TakesOfManyMessages(t *testing.T) {
	t.Parallel()
	p, acts := pooled(t)
	w := square()
	table := w.Table()
	told := map[api.Errno]int{}
	some := []api.Message{message(1, 0, 3), message(1, 1, -4), message(1, 0, 0), message(0, 0, 9), message(1, 2, 8), message(2, 1, 1)}
	proof.Rows(2, acts[2:], func(l []api.Act) {
		proof.Rows(3, some, func(in []api.Message) {
			for _, v := range []int{1, 2} {
				got, e := kernel.Takes(p, l, table, v, in)
				want, wrong := w.Takes(l, v, in)
				if e != wrong || !slices.Equal(got, want) {
					t.Errorf("Takes of %v at %d of %v: %v, %d, not %v, %d", l, v, in, got, e, want, wrong)
				}
				told[e]++
			}
		})
	})
	if told[api.OK] < 1000 || told[api.ErrNoent] < 1000 {
		t.Error(told)
	}
}

// wantNoTakes asks that Takes has an error, over square's columns.
func wantNoTakes(t *testing.T, acts string, v int, in []api.Message, want api.Errno) {
	t.Helper()
	p, l := region(t, acts)
	if got, e := kernel.Takes(p, l, square().Table(), v, in); e != want || len(got) != 0 {
		t.Errorf("%s at %d of %s: %v, %d, not %d", acts, v, tellMessages(in), got, e, want)
	}
}

// A node need not be one, as long as nothing is to it; nor need there be a column, as long as nothing is taken into it.
func TestP23_2TakesWithoutAColumn(t *testing.T) {
	for _, v := range []int{math.MinInt, -1, 4, 12, math.MaxInt} {
		wantTakes(t, "(push a + out 1)", v, []api.Message{message(0, 0, 1)}, "")
		wantNoTakes(t, "(push a + out 1)", v, []api.Message{message(v, 0, 1)}, api.ErrRange)
		wantNoTakes(t, "(push zz + out 1)", v, []api.Message{message(v, 0, 1)}, api.ErrNoent)
		wantTakes(t, "(push a + out 1)", v, []api.Message{message(v, 1, 1)}, "")
	}
	wantTakes(t, "(push a + out 1) (push zz + out 1)", 0, []api.Message{message(0, 0, 1)}, "a=2")
	// No node's column of that name: one of the program, or of edges, is none.
	for _, name := range []string{"zz", "i", "y", "w"} {
		wantNoTakes(t, "(push "+name+" + out 1)", 0, []api.Message{message(0, 0, 1)}, api.ErrNoent)
		wantNoTakes(t, "(push a + out 1) (push "+name+" + out 1)", 0, []api.Message{message(0, 1, 1), message(0, 0, 1)}, api.ErrNoent)
	}
	// The first one of several errors, in the order of the acts.
	few := column.New(2, 0)
	if e := few.Declare(api.Key{Name: "a", Side: api.OfNode}, api.Int); e != api.OK {
		t.Fatal(e)
	}
	for acts, want := range map[string]api.Errno{"(push a + out 1) (push zz + out 1)": api.ErrRange, "(push zz + out 1) (push a + out 1)": api.ErrNoent} {
		p, l := region(t, acts)
		if got, e := kernel.Takes(p, l, few, 2, []api.Message{message(2, 0, 1), message(2, 1, 1)}); e != want || len(got) != 0 {
			t.Error(acts, got, e)
		}
		if got, e := kernel.Takes(p, l, few, 2, []api.Message{message(2, 1, 1), message(2, 0, 1)}); e != want || len(got) != 0 {
			t.Error(acts, got, e)
		}
	}
}
