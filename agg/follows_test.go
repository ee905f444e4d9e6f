package agg

import (
	"math"
	"slices"
	"testing"

	"reticule/api"
	"reticule/proof"
)

func TestP22_4Merge(t *testing.T) {
	for o, parts := range map[api.Op][3]api.Word{
		api.Add: {11, -2, 5}, api.Min: {1, -2, 5}, api.Max: {10, -2, 5}, api.And: {1, 1, 1}, api.Or: {1, 1, 1},
	} {
		a, b := New(o, 3), New(o, 3)
		take(t, a, 0, 1)
		take(t, b, 0, 10)
		take(t, a, 1, -2)
		take(t, b, 2, 5)
		first, as := firsts()[o], func(w api.Word) api.Word { return of(o, firsts()[o], w) }
		if e := a.Merge(b); e != api.OK {
			t.Error(e)
		}
		want(t, "Merge", a, 4, parts[:]...)
		want(t, "what was merged", b, 2, as(10), first, as(5))
		take(t, a, 0, -7)
		take(t, b, 1, -7)
		want(t, "Merge, behind it", a, 5, of(o, parts[0], -7), parts[1], parts[2])
		want(t, "what was merged, behind it", b, 3, as(10), as(-7), as(5))
	}
}

func TestP22_4MergeOfOthers(t *testing.T) {
	each(func(o api.Op, workers int) {
		each(func(p api.Op, many int) {
			a, b := New(o, workers), New(p, many)
			take(t, a, 0, 5)
			take(t, b, many-1, 6)
			wantE := api.OK
			if o != p || workers != many {
				wantE = api.ErrRange
			}
			whole, count := of(o, firsts()[o], 5), 1
			if wantE == api.OK {
				whole, count = of(o, whole, 6), 2
			}
			if e := a.Merge(b); e != wantE || a.Count() != count || b.Count() != 1 {
				t.Errorf("%d, %d: %d", o, p, e)
			}
			wantWhole(t, "Merge", a, whole)
			wantWhole(t, "what was merged", b, of(p, firsts()[p], 6))
		})
	})
}

// One that is merged with itself takes each of its own parts in.
func TestP22_4MergeOfItself(t *testing.T) {
	for o, parts := range map[api.Op][2]api.Word{api.Add: {14, -6}, api.Min: {3, -3}, api.Max: {4, -3}, api.And: {1, 1}, api.Or: {1, 1}} {
		a := New(o, 2)
		take(t, a, 0, 3, 4)
		take(t, a, 1, -3)
		if e := a.Merge(a); e != api.OK {
			t.Error(e)
		}
		want(t, "Merge of itself", a, 6, parts[:]...)
	}
}

// P5: how many were taken in does not go round.
func TestP22_4CountDoesNotGoRound(t *testing.T) {
	a := New(api.Add, 2)
	take(t, a, 1, 1)
	for i := range 62 {
		if a.Count() != 1<<i {
			t.Fatal(i, a.Count())
		}
		a.Merge(a)
	}
	for range 3 {
		a.Merge(a)
		take(t, a, 0, 0)
		if a.Count() != math.MaxInt {
			t.Error(a.Count())
		}
	}
	a.Clear()
	want(t, "Clear", a, 0, 0, 0)
}

func TestP22_4MergeOfWhatHasTakenNothing(t *testing.T) {
	each(func(o api.Op, workers int) {
		a, empty := New(o, workers), New(o, workers)
		for i, w := range vals() {
			take(t, a, i%workers, w)
		}
		var parts []api.Word
		for worker := range workers {
			w, _ := a.Part(worker)
			parts = append(parts, w)
		}
		if e := a.Merge(empty); e != api.OK {
			t.Error(e)
		}
		want(t, "Merge of nothing", a, len(vals()), parts...)
		if e := empty.Merge(a); e != api.OK {
			t.Error(e)
		}
		want(t, "nothing, merged", empty, len(vals()), parts...)
		both := New(o, workers)
		both.Merge(New(o, workers))
		wantWhole(t, "two of nothing", both, firsts()[o])
	})
}

// rows are lists of numbers, in several orders.
func rows() [][]api.Word {
	rising, falling := slices.Sorted(slices.Values(vals())), slices.Sorted(slices.Values(vals()))
	slices.Reverse(falling)
	return [][]api.Word{vals(), rising, falling}
}

func TestP22_2WhoeverTookItInAndInWhateverOrder(t *testing.T) {
	for o, whole := range firsts() {
		for _, w := range vals() {
			whole = of(o, whole, w)
		}
		for _, row := range rows() {
			for workers := 1; workers <= api.MaxWorkers; workers++ {
				for step := range 9 {
					a := New(o, workers)
					for i, w := range row {
						take(t, a, (i*i+i*step)%workers, w)
					}
					wantWhole(t, "Whole", a, whole)
				}
			}
		}
	}
}

// All ways to deal a few numbers to workers.
func TestP22_2AllWaysToDeal(t *testing.T) {
	some := []api.Word{-3, 0, 8, 1}
	for o, first := range firsts() {
		proof.Rows(len(some), []int{0, 1, 2, 3}, func(by []int) {
			a, whole, parts := New(o, 4), first, []api.Word{first, first, first, first}
			for i, worker := range by {
				take(t, a, worker, some[i])
				whole, parts[worker] = of(o, whole, some[i]), of(o, parts[worker], some[i])
			}
			want(t, "parts", a, len(by), parts...)
			wantWhole(t, "Whole", a, whole)
		})
	}
}

func TestP22_3WholeOfOneWorkerIsItsPart(t *testing.T) {
	for o := range firsts() {
		a := New(o, 1)
		for _, w := range vals() {
			part, e := a.Part(0)
			if e != api.OK {
				t.Error(e)
			}
			wantWhole(t, "one worker", a, part)
			take(t, a, 0, w)
		}
	}
}

// E2: Whole hangs not on who took in what, nor on what was merged with what.
func TestE2WholeOfMerged(t *testing.T) {
	each(func(o api.Op, workers int) {
		whole := firsts()[o]
		one, other := New(o, workers), New(o, workers)
		for i, w := range vals() {
			whole = of(o, whole, w)
			take(t, []*Agg{one, other}[i/2%2], i*3%workers, w)
		}
		back := other.Fork()
		one.Merge(other)
		wantWhole(t, "the one", one, whole)
		one = New(o, workers)
		for i, w := range vals() {
			if i/2%2 == 0 {
				take(t, one, 0, w)
			}
		}
		back.Merge(one)
		wantWhole(t, "the other one", back, whole)
		if back.Count() != len(vals()) {
			t.Error(back.Count())
		}
	})
}

// E1 and P6: nothing is kept but in the objects.
func TestP6NothingIsKeptBetween(t *testing.T) {
	each(func(o api.Op, workers int) {
		a, b := New(o, workers), New(o, workers)
		for i, w := range vals() {
			take(t, b, i%workers, w)
		}
		want(t, "another one", a, 0, []api.Word{firsts()[o], firsts()[o], firsts()[o], firsts()[o]}[:workers]...)
	})
}
