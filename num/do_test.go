package num

import (
	"math"
	"slices"
	"testing"

	"reticule/api"
)

const allOps = 256 // as many as an Op can name

func TestP1_2Arity(t *testing.T) {
	for i := range allOps {
		o, want := api.Op(i), 0
		switch {
		case o == api.Not:
			want = 1
		case o == api.If:
			want = 3
		case i >= int(api.Add) && i <= int(api.Narrow):
			want = 2
		}
		if Arity(o) != want {
			t.Errorf("Arity(%d) is %d, not %d", o, Arity(o), want)
		}
	}
}

// P2: ErrRange is named first; beside an error stands 0.
func TestP1_2DoRefuses(t *testing.T) {
	l := []api.Word{9, 8, 7, 6, 5}
	for i := range allOps {
		for many := range len(l) + 1 {
			want := api.OK
			if Arity(api.Op(i)) == 0 {
				want = api.ErrRange
			} else if Arity(api.Op(i)) != many {
				want = api.ErrForm
			}
			a, e := Do(api.Op(i), l[:many]...)
			if e != want || e != api.OK && a != 0 {
				t.Errorf("Do(%d) of %d is %d, %d", i, many, a, e)
			}
		}
	}
	if a, e := Do(api.NoOp, nil...); a != 0 || e != api.ErrRange {
		t.Error("none of nil", a, e)
	}
	if a, e := Do(api.LastOp+1, 1, 2); a != 0 || e != api.ErrRange {
		t.Error("behind the last", a, e)
	}
	if a, e := Do(api.Add, nil...); a != 0 || e != api.ErrForm {
		t.Error("Add of nil", a, e)
	}
}

func TestP1_2DoReckonsAsTheCalls(t *testing.T) {
	calls := map[api.Op]func(a, b api.Word) api.Word{
		api.Add: Add, api.Sub: Sub, api.Mul: Mul, api.Div: Div, api.Mod: Mod, api.Shl: Shl, api.Shr: Shr, api.Narrow: Narrow,
		api.BitAnd: func(a, b api.Word) api.Word { return bitByBit(a, b, func(x, y bool) bool { return x && y }) },
		api.BitOr:  func(a, b api.Word) api.Word { return bitByBit(a, b, func(x, y bool) bool { return x || y }) },
		api.BitXor: func(a, b api.Word) api.Word { return bitByBit(a, b, func(x, y bool) bool { return x != y }) },
	}
	for o, call := range calls {
		for _, a := range some() {
			for _, b := range some() {
				if got, e := Do(o, a, b); got != call(a, b) || e != api.OK {
					t.Errorf("Do(%d, %d, %d) is %d, %d, not %d", o, a, b, got, e, call(a, b))
				}
			}
		}
	}
}

func bitByBit(a, b api.Word, of func(x, y bool) bool) api.Word {
	x, y := Bytes(a), Bytes(b)
	var z [8]byte
	for i := range z {
		for bit := range 8 {
			if of(x[i]>>bit&1 == 1, y[i]>>bit&1 == 1) {
				z[i] |= 1 << bit
			}
		}
	}
	return Join(z)
}

func TestP1_2DoOfEachOperation(t *testing.T) {
	for _, x := range []struct {
		o    api.Op
		l    []api.Word
		want api.Word
	}{
		{api.Add, []api.Word{math.MaxInt64, 1}, math.MinInt64},
		{api.Sub, []api.Word{3, 5}, -2},
		{api.Mul, []api.Word{-3, 5}, -15},
		{api.Div, []api.Word{math.MinInt64, -1}, math.MinInt64},
		{api.Div, []api.Word{7, 0}, 0},
		{api.Mod, []api.Word{-7, 2}, -1},
		{api.Mod, []api.Word{7, 0}, 0},
		{api.Min, []api.Word{-3, 5}, -3}, {api.Min, []api.Word{5, -3}, -3}, {api.Min, []api.Word{4, 4}, 4},
		{api.Min, []api.Word{math.MinInt64, math.MaxInt64}, math.MinInt64},
		{api.Max, []api.Word{-3, 5}, 5}, {api.Max, []api.Word{5, -3}, 5}, {api.Max, []api.Word{4, 4}, 4},
		{api.Max, []api.Word{math.MinInt64, math.MaxInt64}, math.MaxInt64},
		{api.Shl, []api.Word{1, 64}, 1}, {api.Shl, []api.Word{3, 2}, 12},
		{api.Shr, []api.Word{-8, 1}, -4},
		{api.BitAnd, []api.Word{6, 3}, 2}, {api.BitOr, []api.Word{6, 3}, 7}, {api.BitXor, []api.Word{6, 3}, 5},
		{api.Eq, []api.Word{4, 4}, 1}, {api.Eq, []api.Word{4, 5}, 0}, {api.Eq, []api.Word{math.MinInt64, math.MaxInt64}, 0},
		{api.Lt, []api.Word{4, 5}, 1}, {api.Lt, []api.Word{4, 4}, 0}, {api.Lt, []api.Word{5, 4}, 0},
		{api.Lt, []api.Word{math.MinInt64, math.MaxInt64}, 1}, {api.Lt, []api.Word{math.MaxInt64, math.MinInt64}, 0},
		{api.Not, []api.Word{0}, 1}, {api.Not, []api.Word{1}, 0}, {api.Not, []api.Word{-2}, 0}, {api.Not, []api.Word{math.MinInt64}, 0},
		{api.And, []api.Word{1, 2}, 1}, {api.And, []api.Word{-4, 4}, 1}, {api.And, []api.Word{0, 2}, 0}, {api.And, []api.Word{2, 0}, 0}, {api.And, []api.Word{0, 0}, 0},
		{api.Or, []api.Word{0, 2}, 1}, {api.Or, []api.Word{-2, 0}, 1}, {api.Or, []api.Word{4, 4}, 1}, {api.Or, []api.Word{0, 0}, 0},
		{api.If, []api.Word{0, 3, 4}, 4}, {api.If, []api.Word{1, 3, 4}, 3}, {api.If, []api.Word{-9, 3, 4}, 3}, {api.If, []api.Word{2, math.MinInt64, 0}, math.MinInt64},
		{api.Narrow, []api.Word{8, 200}, -56}, {api.Narrow, []api.Word{200, 8}, 8}, {api.Narrow, []api.Word{32, 1 << 31}, -1 << 31},
	} {
		if got, e := Do(x.o, x.l...); got != x.want || e != api.OK {
			t.Errorf("Do(%d, %v) is %d, %d, not %d", x.o, x.l, got, e, x.want)
		}
	}
}

func TestP1_2Truth(t *testing.T) {
	for _, a := range some() {
		if Truth(a) != (a != 0) {
			t.Errorf("Truth(%d)", a)
		}
	}
}

func TestP1_2Reduces(t *testing.T) {
	first := map[api.Op]api.Word{api.Add: 0, api.Min: math.MaxInt64, api.Max: math.MinInt64, api.And: 1, api.Or: 0}
	for i := range allOps {
		want, is := first[api.Op(i)]
		if a, got := Reduces(api.Op(i)); a != want || got != is {
			t.Errorf("Reduces(%d) is %d, %t", i, a, got)
		}
	}
}

func reducing() []api.Op {
	var l []api.Op
	for i := range allOps {
		if _, is := Reduces(api.Op(i)); is {
			l = append(l, api.Op(i))
		}
	}
	return l
}

func must(t *testing.T, o api.Op, a, b api.Word) api.Word {
	t.Helper()
	w, e := Do(o, a, b)
	if e != api.OK {
		t.Fatalf("Do(%d, %d, %d): %d", o, a, b, e)
	}
	return w
}

// E2, as far as num reaches: what is taken in hangs on no order.
func TestP1_5ReducesInAnyOrderAndGrouping(t *testing.T) {
	l := []api.Word{0, 1, -1, 2, 5, -7, 1 << 62, math.MaxInt64, math.MinInt64}
	for _, o := range reducing() {
		for _, a := range l {
			for _, b := range l {
				if must(t, o, a, b) != must(t, o, b, a) {
					t.Errorf("Do(%d) of %d and %d hangs on the order", o, a, b)
				}
				for _, c := range l {
					if must(t, o, must(t, o, a, b), c) != must(t, o, a, must(t, o, b, c)) {
						t.Errorf("Do(%d) of %d, %d, %d hangs on the groups", o, a, b, c)
					}
				}
			}
		}
	}
}

// And and Or take in truths, so with them it is the truth that stays.
func TestP1_5FirstNumberChangesNothing(t *testing.T) {
	for _, o := range reducing() {
		first, _ := Reduces(o)
		for _, a := range some() {
			want := a
			if o == api.And || o == api.Or {
				want = asWord(Truth(a))
			}
			if must(t, o, first, a) != want || must(t, o, a, first) != want {
				t.Errorf("Do(%d) of %d and the first one", o, a)
			}
		}
	}
}

func TestP3DoLeavesItsListAsItIs(t *testing.T) {
	for i := range allOps {
		room := []api.Word{-9, 2, 7, 41, 42, 43}
		for many := range 4 {
			Do(api.Op(i), room[:many]...)
			if !slices.Equal(room, []api.Word{-9, 2, 7, 41, 42, 43}) {
				t.Fatalf("Do(%d) of %d changed its list: %v", i, many, room)
			}
		}
	}
}

// E1 and P6: the same call has the same answer, whatever was called in between.
func TestP6DoKeepsNothing(t *testing.T) {
	type answer struct {
		a api.Word
		e api.Errno
	}
	all := func() []answer {
		var l []answer
		for i := range allOps {
			for _, a := range []api.Word{-5, 0, 8, 64} {
				w, e := Do(api.Op(i), a, 3)
				l = append(l, answer{w, e})
			}
		}
		return l
	}
	first := all()
	for range 3 {
		if !slices.Equal(all(), first) {
			t.Fatal("another answer to the same call")
		}
	}
}
