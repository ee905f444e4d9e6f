package agg

import (
	"math"
	"testing"

	"reticule/api"
)

// The calls have the signatures that the chapter lists.
var (
	_ func(api.Op, int) *Agg                   = New
	_ func(*Agg, int, api.Word) api.Errno      = (*Agg).Take
	_ func(*Agg, int) (api.Word, api.Errno)    = (*Agg).Part
	_ func(*Agg, uint64) (api.Word, api.Errno) = (*Agg).Whole
	_ func(*Agg) int                           = (*Agg).Count
	_ func(*Agg)                               = (*Agg).Clear
	_ func(*Agg) *Agg                          = (*Agg).Fork
	_ func(*Agg, *Agg) api.Errno               = (*Agg).Merge
)

// firsts are the operations that take in many, with the numbers from which on they do.
func firsts() map[api.Op]api.Word {
	return map[api.Op]api.Word{api.Add: 0, api.Min: math.MaxInt64, api.Max: math.MinInt64, api.And: 1, api.Or: 0}
}

// of is an operation of two numbers, in plain words.
func of(o api.Op, a, b api.Word) api.Word {
	truth := map[bool]api.Word{true: 1}
	switch o {
	case api.Add:
		return api.Word(uint64(a) + uint64(b))
	case api.Min:
		if b < a {
			return b
		}
		return a
	case api.Max:
		if b > a {
			return b
		}
		return a
	case api.And:
		return truth[a != 0 && b != 0]
	case api.Or:
		return truth[a != 0 || b != 0]
	}
	panic("it does not take in many")
}

// vals are numbers below 0 and above, that are truths and not, and the last ones.
func vals() []api.Word {
	return []api.Word{5, math.MinInt64, 1, 0, -2, math.MaxInt64, 7, 1, -9, 4}
}

// seeds are numbers of orders, small ones and the greatest ones.
func seeds() []uint64 {
	return []uint64{0, 1, 2, 3, 5, 6, 7, 22, 23, 24, 25, 1<<63 - 1, 1 << 63, math.MaxUint64 - 1, math.MaxUint64}
}

// each does f with each operation and number of workers that may be.
func each(f func(o api.Op, workers int)) {
	for o := range firsts() {
		for workers := 1; workers <= api.MaxWorkers; workers++ {
			f(o, workers)
		}
	}
}

// want asks for parts, and how many were taken in.
func want(t *testing.T, what string, a *Agg, count int, parts ...api.Word) {
	t.Helper()
	if a.Count() != count {
		t.Errorf("%s: Count: %d, not %d", what, a.Count(), count)
	}
	for worker, part := range parts {
		if w, e := a.Part(worker); w != part || e != api.OK {
			t.Errorf("%s: Part(%d): %d, %d, not %d", what, worker, w, e, part)
		}
	}
	for _, worker := range []int{math.MinInt, -256, -1, len(parts), len(parts) + 1, 256, 1 << 32, math.MaxInt} {
		if w, e := a.Part(worker); w != 0 || e != api.ErrRange {
			t.Errorf("%s: Part(%d): %d, %d", what, worker, w, e)
		}
	}
}

// wantWhole asks for what all is together, in all orders.
func wantWhole(t *testing.T, what string, a *Agg, want api.Word) {
	t.Helper()
	for _, k := range seeds() {
		if w, e := a.Whole(k); w != want || e != api.OK {
			t.Errorf("%s: Whole(%d): %d, %d, not %d", what, k, w, e, want)
		}
	}
}

// take asks that each of l is taken in, by one worker.
func take(t *testing.T, a *Agg, worker int, l ...api.Word) {
	t.Helper()
	for _, w := range l {
		if e := a.Take(worker, w); e != api.OK {
			t.Errorf("Take(%d, %d): %d", worker, w, e)
		}
	}
}

func TestP22_1New(t *testing.T) {
	for n := range 256 {
		o := api.Op(n)
		first, is := firsts()[o]
		for _, workers := range []int{math.MinInt, -256, -1, 0, 1, 2, 3, 4, 5, 6, 256, 257, 1 << 32, 1<<32 + 1, math.MaxInt} {
			a := New(o, workers)
			if may := is && workers >= 1 && workers <= 4; (a != nil) != may {
				t.Errorf("New(%d, %d): %v", o, workers, a)
			}
			if a == nil {
				continue
			}
			parts := []api.Word{first, first, first, first}[:workers]
			want(t, "New", a, 0, parts...)
			wantWhole(t, "New", a, first)
		}
	}
}

func TestP22_1Example(t *testing.T) {
	a := New(api.Add, 2)
	take(t, a, 0, 3)
	take(t, a, 1, 4)
	want(t, "Add", a, 2, 3, 4)
	wantWhole(t, "Add", a, 7)
}

func TestP22_1Take(t *testing.T) {
	for o, parts := range map[api.Op][2]api.Word{
		api.Add: {7, -8}, api.Min: {-3, -9}, api.Max: {10, 1}, api.And: {0, 1}, api.Or: {1, 1},
	} {
		a := New(o, 3)
		take(t, a, 2, 10, 0, -3)
		take(t, a, 0, -9, 1)
		want(t, "Take", a, 5, parts[1], firsts()[o], parts[0])
	}
	a := New(api.Add, 1)
	take(t, a, 0, math.MaxInt64, 2)
	want(t, "it goes round", a, 2, math.MinInt64+1)
	for _, w := range vals() {
		and, or := New(api.And, 1), New(api.Or, 1)
		take(t, and, 0, w)
		take(t, or, 0, w)
		want(t, "And", and, 1, of(api.And, 1, w))
		want(t, "Or", or, 1, of(api.Or, 0, w))
	}
}

func TestP22_1WorkersThatAreNone(t *testing.T) {
	each(func(o api.Op, workers int) {
		a := New(o, workers)
		take(t, a, workers-1, 6)
		for _, worker := range []int{math.MinInt, -4, -1, workers, workers + 1, 4, 5, 256, 1 << 32, math.MaxInt} {
			if e := a.Take(worker, 3); e != api.ErrRange {
				t.Errorf("Take(%d): %d", worker, e)
			}
		}
		parts := []api.Word{firsts()[o], firsts()[o], firsts()[o], firsts()[o]}[:workers]
		parts[workers-1] = of(o, firsts()[o], 6)
		want(t, "wrong workers", a, 1, parts...)
		wantWhole(t, "wrong workers", a, parts[workers-1])
	})
}

func TestP1OfNil(t *testing.T) {
	var a *Agg
	for _, worker := range []int{math.MinInt, -1, 0, 1, 4, math.MaxInt} {
		if e := a.Take(worker, 1); e != api.ErrNil {
			t.Error(e)
		}
		if w, e := a.Part(worker); w != 0 || e != api.ErrNil {
			t.Error(w, e)
		}
	}
	for _, k := range seeds() {
		if w, e := a.Whole(k); w != 0 || e != api.ErrNil {
			t.Error(w, e)
		}
	}
	a.Clear()
	if a.Count() != 0 || a.Fork() != nil {
		t.Error(a.Count(), a.Fork())
	}
	b := New(api.Max, 2)
	take(t, b, 1, 5)
	if a.Merge(nil) != api.ErrNil || a.Merge(b) != api.ErrNil || b.Merge(nil) != api.ErrNil || b.Merge(a) != api.ErrNil {
		t.Error("Merge of nil")
	}
	want(t, "Merge of nil", b, 1, math.MinInt64, 5)
}

func TestP22_1Whole(t *testing.T) {
	for o, whole := range map[api.Op]api.Word{api.Add: 9, api.Min: -4, api.Max: 8, api.And: 0, api.Or: 1} {
		a := New(o, 4)
		for worker, w := range []api.Word{8, 0, -4, 5} {
			take(t, a, worker, w)
		}
		wantWhole(t, "Whole", a, whole)
		want(t, "behind Whole", a, 4, of(o, firsts()[o], 8), of(o, firsts()[o], 0), of(o, firsts()[o], -4), of(o, firsts()[o], 5))
	}
	all := New(api.And, 4)
	for worker := range 4 {
		take(t, all, worker, 3)
	}
	wantWhole(t, "And", all, 1)
	round := New(api.Add, 3)
	take(t, round, 0, math.MaxInt64)
	take(t, round, 2, math.MaxInt64)
	wantWhole(t, "it goes round", round, -2)
}

func TestP22_1CountAndClear(t *testing.T) {
	each(func(o api.Op, workers int) {
		a := New(o, workers)
		for i, w := range vals() {
			take(t, a, i%workers, w)
			if a.Count() != i+1 {
				t.Fatal(a.Count(), i+1)
			}
		}
		a.Clear()
		want(t, "Clear", a, 0, []api.Word{firsts()[o], firsts()[o], firsts()[o], firsts()[o]}[:workers]...)
		wantWhole(t, "Clear", a, firsts()[o])
		take(t, a, 0, 6)
		wantWhole(t, "behind Clear", a, of(o, firsts()[o], 6))
		if a.Count() != 1 || a.Merge(New(o, workers)) != api.OK || a.Take(workers, 1) != api.ErrRange {
			t.Error(a.Count())
		}
	})
}

// P4: what becomes of one, or of its Fork, changes nothing of the other one.
func TestP22_1Fork(t *testing.T) {
	each(func(o api.Op, workers int) {
		a := New(o, workers)
		take(t, a, workers-1, 3, 9)
		parts := []api.Word{firsts()[o], firsts()[o], firsts()[o], firsts()[o]}[:workers]
		parts[workers-1] = of(o, of(o, firsts()[o], 3), 9)
		for _, change := range []func(*Agg){
			func(a *Agg) { take(t, a, 0, 0, -5) }, (*Agg).Clear, func(a *Agg) { a.Merge(a) },
			func(a *Agg) { b := New(o, workers); take(t, b, workers-1, 8, -8); a.Merge(b) },
		} {
			fork := a.Fork()
			want(t, "Fork", fork, 2, parts...)
			change(fork)
			want(t, "the one, behind a change of its Fork", a, 2, parts...)
			kept, other := a.Fork(), a.Fork()
			change(other)
			want(t, "one Fork, behind a change of another one", kept, 2, parts...)
			change(a)
			want(t, "a Fork, behind a change of the one", kept, 2, parts...)
			a = kept
		}
		if again := a.Fork().Fork(); again == a || again.Merge(a) != api.OK || a.Count() != 2 {
			t.Error(again, a)
		}
	})
}
