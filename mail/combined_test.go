package mail

import (
	"math"
	"slices"
	"testing"

	"reticule/api"
	"reticule/proof"
)

// reducing are the operations that take in many.
func reducing() []api.Op { return []api.Op{api.Add, api.Min, api.Max, api.And, api.Or} }

// other are operations that do not take in many, and numbers that are no operations.
func other() []api.Op {
	return []api.Op{api.NoOp, api.Sub, api.Mul, api.Div, api.Mod, api.Shl, api.Shr, api.BitAnd, api.BitOr, api.BitXor, api.Eq, api.Lt, api.Not, api.If, api.Narrow, api.LastOp + 1, 100, 255}
}

// of is an operation of two numbers, in plain words.
func of(o api.Op, a, b api.Word) api.Word {
	truth := map[bool]api.Word{true: 1}
	switch o {
	case api.Add:
		return api.Word(uint64(a) + uint64(b))
	case api.Min:
		if b < a {
			return b
		}
		return a
	case api.Max:
		if b > a {
			return b
		}
		return a
	case api.And:
		return truth[a != 0 && b != 0]
	case api.Or:
		return truth[a != 0 || b != 0]
	}
	panic("it does not take in many")
}

// vals are numbers below 0 and above, that are truths and not, and the last ones.
func vals() []api.Word { return []api.Word{math.MinInt64, -2, 0, 1, 5, math.MaxInt64} }

func wantCombined(t *testing.T, l []api.Message, ops []api.Op, want []api.Message) {
	t.Helper()
	if got, e := Combined(l, ops); e != api.OK || !slices.Equal(got, want) {
		t.Errorf("Combined(%v, %v): %v, %d, not %v", l, ops, got, e, want)
	}
}

func wantNotCombined(t *testing.T, l []api.Message, ops []api.Op, want api.Errno) {
	t.Helper()
	if got, e := Combined(l, ops); e != want || len(got) != 0 {
		t.Errorf("Combined(%v, %v): %v, %d, not %d", l, ops, got, e, want)
	}
}

func TestP21_1Combined(t *testing.T) {
	wantCombined(t, []api.Message{message(4, 0, 3), message(4, 0, 4)}, []api.Op{api.Add}, []api.Message{message(4, 0, 7)})
	l := []api.Message{message(3, 1, 5), message(0, 2, 9), message(3, 1, 7), message(3, 0, -3), message(0, 1, 1), message(3, 0, -4), message(3, 1, 6)}
	for o, want := range map[api.Op]api.Word{api.Add: 18, api.Min: 5, api.Max: 7, api.And: 1, api.Or: 1} {
		wantCombined(t, l, []api.Op{api.Add, o, api.Min}, []api.Message{message(0, 1, 1), message(0, 2, 9), message(3, 0, -7), message(3, 1, want)})
	}
	round := []api.Message{message(1, 0, math.MaxInt64), message(1, 0, 2)}
	wantCombined(t, round, []api.Op{api.Add}, []api.Message{message(1, 0, math.MinInt64+1)})
	zero := []api.Message{message(1, 0, 0), message(1, 1, 0), message(1, 0, 7), message(1, 1, 7)}
	wantCombined(t, zero, []api.Op{api.And, api.Or}, []api.Message{message(1, 0, 0), message(1, 1, 1)})
	wantCombined(t, []api.Message{message(-5, 0, 1), message(99, 0, 2), message(-5, 0, 3), message(math.MinInt, 0, 6)}, []api.Op{api.Add}, []api.Message{message(math.MinInt, 0, 6), message(-5, 0, 4), message(99, 0, 2)})
}

// One alone is not taken into anything: it stays as it is, though And and Or of two are truths.
func TestP21_1CombinedOfOne(t *testing.T) {
	for _, o := range reducing() {
		for _, val := range vals() {
			wantCombined(t, []api.Message{message(2, 0, val)}, []api.Op{o}, []api.Message{message(2, 0, val)})
			wantCombined(t, []api.Message{message(2, 0, val), message(2, 0, 1)}, []api.Op{o}, []api.Message{message(2, 0, of(o, val, 1))})
		}
	}
}

func TestP21_1CombinedOfNone(t *testing.T) {
	for _, l := range [][]api.Message{nil, {}} {
		for _, ops := range [][]api.Op{nil, {}, reducing(), other()} {
			wantCombined(t, l, ops, nil)
		}
	}
}

func TestP21_1CombinedOfTagsThatAreNoPlaces(t *testing.T) {
	for n := range 8 {
		ops := slices.Repeat([]api.Op{api.Max}, n)
		for _, tag := range []int{math.MinInt, -256, -1, n, n + 1, 256, 1 << 32, math.MaxInt} {
			wantNotCombined(t, []api.Message{message(0, tag, 1)}, ops, api.ErrRange)
		}
		for tag := range n {
			wantCombined(t, []api.Message{message(0, tag, 1)}, ops, []api.Message{message(0, tag, 1)})
			wantNotCombined(t, []api.Message{message(0, tag, 1), message(0, n, 1), message(0, tag, 1)}, ops, api.ErrRange)
		}
	}
	wantNotCombined(t, []api.Message{message(0, 0, 1)}, nil, api.ErrRange)
}

// Only the operations count that a message names.
func TestP21_1CombinedByWhatDoesNotTakeInMany(t *testing.T) {
	for _, o := range other() {
		ops := []api.Op{api.Add, o, api.Or}
		wantNotCombined(t, []api.Message{message(0, 1, 1)}, ops, api.ErrForm)
		wantNotCombined(t, []api.Message{message(0, 0, 1), message(0, 2, 1), message(0, 1, 1), message(0, 1, 1)}, ops, api.ErrForm)
		wantCombined(t, []api.Message{message(0, 0, 1), message(0, 2, 1), message(0, 0, 8)}, ops, []api.Message{message(0, 0, 9), message(0, 2, 1)})
		for _, both := range [][]api.Message{{message(0, 1, 1), message(0, 3, 1)}, {message(0, 3, 1), message(0, 1, 1)}, {message(0, 1, 1), message(0, -1, 1)}} {
			wantNotCombined(t, both, ops, api.ErrRange)
		}
	}
}

// folded is what Combined should be: the messages gone through once for each place, from the first one on.
func folded(l []api.Message, ops []api.Op) []api.Message {
	var out []api.Message
	for i, m := range l {
		same := func(n api.Message) bool { return n.To == m.To && n.Tag == m.Tag }
		if slices.IndexFunc(l, same) < i {
			continue
		}
		for _, n := range l[i+1:] {
			if same(n) {
				m.Val = of(ops[m.Tag], m.Val, n.Val)
			}
		}
		out = append(out, m)
	}
	return insorted(out)
}

// eachCombined does f with short lists of messages, and operations by which they are combined.
func eachCombined(f func(l []api.Message, ops []api.Op)) {
	for i, o := range reducing() {
		ops := []api.Op{o, reducing()[(i+2)%5]}
		var some []api.Message
		for _, val := range vals() {
			some = append(some, message(7, 0, val), message(3, 1, val))
		}
		some = append(some, message(3, 0, 2), message(7, 1, -1))
		proof.Rows(3, some, func(l []api.Message) { f(l, ops) })
		for n := range 60 {
			f(dealt(n), reducing())
		}
	}
}

// dealt are n messages to a few nodes, of all tags below 5.
func dealt(n int) []api.Message {
	var l []api.Message
	for i := range n {
		l = append(l, message(i*i%4, i*7%5, vals()[i*5%6]-api.Word(i%3)))
	}
	return l
}

func TestP21_1CombinedOfManyLists(t *testing.T) {
	eachCombined(func(l []api.Message, ops []api.Op) { wantCombined(t, l, ops, folded(l, ops)) })
}

func wantTaken(t *testing.T, w api.Word, o api.Op, tag int, l []api.Message, want api.Word) {
	t.Helper()
	if got, e := Taken(w, o, tag, l); got != want || e != api.OK {
		t.Errorf("Taken(%d, %d, %d, %v): %d, %d, not %d", w, o, tag, l, got, e, want)
	}
}

func TestP21_1Taken(t *testing.T) {
	l := []api.Message{message(2, 1, 5), message(0, 0, 100), message(3, 1, -7), message(2, 1, 0), message(-1, -4, 6)}
	for _, c := range []struct {
		w, want api.Word
		o       api.Op
	}{
		{10, 8, api.Add}, {10, -7, api.Min}, {-9, -9, api.Min}, {-9, 5, api.Max}, {10, 10, api.Max},
		{1, 0, api.And}, {6, 0, api.And}, {0, 1, api.Or}, {6, 1, api.Or}, {math.MaxInt64, math.MaxInt64 - 2, api.Add}, {math.MinInt64, math.MaxInt64 - 1, api.Add},
	} {
		wantTaken(t, c.w, c.o, 1, l, c.want)
	}
	wantTaken(t, 10, api.Add, 0, l, 110)
	wantTaken(t, 10, api.Add, -4, l, 16)
	wantTaken(t, 10, api.And, 0, l, 1)
}

// What takes nothing in stays as it is: no truth is made of it.
func TestP21_1TakenOfTagsThatNoneHas(t *testing.T) {
	l := []api.Message{message(2, 1, 5), message(0, 0, 100)}
	for _, o := range reducing() {
		for _, w := range vals() {
			for _, tag := range []int{math.MinInt, -1, 2, 5, 6, 256, 1 << 32, math.MaxInt} {
				wantTaken(t, w, o, tag, l, w)
			}
			wantTaken(t, w, o, 0, nil, w)
			wantTaken(t, w, o, 0, []api.Message{}, w)
		}
	}
}

func TestP21_1TakenByWhatDoesNotTakeInMany(t *testing.T) {
	for _, o := range other() {
		for _, l := range [][]api.Message{nil, {message(0, 0, 1)}, {message(0, 1, 1)}} {
			if w, e := Taken(7, o, 0, l); w != 0 || e != api.ErrRange {
				t.Errorf("%d: %d, %d", o, w, e)
			}
		}
	}
}

func TestP21_1TakenOfManyLists(t *testing.T) {
	eachCombined(func(l []api.Message, ops []api.Op) {
		for tag, o := range ops {
			want := api.Word(-3)
			for _, m := range l {
				if m.Tag == tag {
					want = of(o, want, m.Val)
				}
			}
			wantTaken(t, -3, o, tag, l, want)
		}
	})
}

// orders does f with messages in several orders.
func orders(l []api.Message, f func([]api.Message)) {
	for _, k := range seeds() {
		f(turnedRows(l, k))
	}
	f(insorted(l))
}

func TestP21_3WhateverTheOrder(t *testing.T) {
	eachCombined(func(l []api.Message, ops []api.Op) {
		want, _ := Combined(l, ops)
		taken, _ := Taken(6, ops[1], 1, l)
		orders(l, func(m []api.Message) {
			wantCombined(t, m, ops, want)
			wantTaken(t, 6, ops[1], 1, m, taken)
		})
	})
}

func TestP21_4TakenOfCombinedIsTakenOfAll(t *testing.T) {
	eachCombined(func(l []api.Message, ops []api.Op) {
		together, _ := Combined(l, ops)
		for tag, o := range ops {
			for _, w := range vals() {
				want, _ := Taken(w, o, tag, l)
				wantTaken(t, w, o, tag, together, want)
			}
		}
	})
}

// E2: what a node takes in hangs on no order, nor on whether workers combine what they send.
func TestE2TakenHangsOnNoWorkersAndNoOrder(t *testing.T) {
	l, ops := dealt(50), reducing()
	for workers := 1; workers <= api.MaxWorkers; workers++ {
		for _, k := range seeds() {
			for combining := range 1 << workers {
				inbox := posted(l, ops, workers, combining, k)
				for to := range 4 {
					for tag, o := range ops {
						want, _ := Taken(0, o, tag, For(l, to))
						wantTaken(t, 0, o, tag, For(inbox, to), want)
					}
				}
			}
		}
	}
}

// posted are messages dealt to workers, some of whom combine theirs; all of it turned.
func posted(l []api.Message, ops []api.Op, workers, combining int, k uint64) []api.Message {
	var all []api.Message
	for worker := range workers {
		var own []api.Message
		for i, m := range l {
			if i*i%workers == worker {
				own = append(own, m)
			}
		}
		if combining>>worker&1 == 1 {
			own, _ = Combined(own, ops)
		}
		all = append(all, own...)
	}
	return Turned(all, k)
}
