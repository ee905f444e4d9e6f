package tree

import (
	"math"
	"slices"
	"testing"

	"reticule/api"
)

// plainBelow goes down by a heap of places that are still to be told, the next one uppermost.
func plainBelow(l []api.Form, at int) []int {
	var out []int
	if at < 0 || at >= len(l) {
		return out
	}
	pile := []int{}
	heap := func(own int) {
		for i := len(l[own].Kids) - 1; i >= 0; i-- {
			if kid := l[own].Kids[i]; kid > own && kid < len(l) {
				pile = append(pile, kid)
			}
		}
	}
	heap(at)
	for len(pile) > 0 && len(out) < 400 {
		next := pile[len(pile)-1]
		pile = pile[:len(pile)-1]
		out = append(out, next)
		heap(next)
	}
	return out
}

// plainDepth goes down all ways.
func plainDepth(l []api.Form, own int, places []int) int {
	most := 0
	for _, place := range places {
		if place <= own || place >= len(l) {
			continue
		}
		deep := plainDepth(l, place, l[place].Kids)
		if l[place].Kind == api.Open {
			deep++
		}
		most = max(most, deep)
	}
	return min(most, 13)
}

// wild are lists of n forms of all kinds, with kids anywhere; which ones the number says.
func wild(n int, which uint64) []api.Form {
	next := func(below int) int {
		which = which*6364136223846793005 + 1442695040888963407
		return int(which >> 33 % uint64(below))
	}
	l := make([]api.Form, n)
	for i := range l {
		l[i] = api.Form{Kind: []api.TokenKind{api.Open, api.Open, api.Open, api.Name, api.Number, api.NoToken, 9}[next(7)], Text: "t", Num: api.Word(i), At: 3 * i}
		for range next(4) {
			l[i].Kids = append(l[i].Kids, next(n+4)-2)
		}
	}
	return l
}

func wantBelow(t *testing.T, l []api.Form, at int, want ...int) {
	t.Helper()
	if got := Below(l, at); !slices.Equal(got, want) {
		t.Errorf("%v: below %d stand %v, not %v", l, at, got, want)
	}
	size := 0
	if at >= 0 && at < len(l) {
		size = len(want) + 1
	}
	if got := Size(l, at); got != size {
		t.Errorf("%v: Size of %d is %d, not %d", l, at, got, size)
	}
}

func TestP7_2SizeAndBelow(t *testing.T) {
	l, _ := formsOf(t, "(a (b 1) ()) c (d)")
	wantBelow(t, l, 0, 1, 2, 3, 4, 5)
	wantBelow(t, l, 1)
	wantBelow(t, l, 2, 3, 4)
	wantBelow(t, l, 3)
	wantBelow(t, l, 4)
	wantBelow(t, l, 5)
	wantBelow(t, l, 6)
	wantBelow(t, l, 7, 8)
	wantBelow(t, l, 8)
	for _, at := range []int{-1, -2, 9, 10, math.MinInt, math.MaxInt} {
		wantBelow(t, l, at)
		wantBelow(t, nil, at)
	}
	wantBelow(t, nil, 0)
	wantBelow(t, []api.Form{}, 0)
}

func TestP7_2BelowOfAnyList(t *testing.T) {
	wantBelow(t, []api.Form{bracket(0, 0)}, 0)
	wantBelow(t, []api.Form{bracket(0, -1, 1, 2, math.MaxInt, math.MinInt)}, 0)
	wantBelow(t, []api.Form{bracket(0, 1, -1, 0, 2), name("a", 0)}, 0, 1)
	wantBelow(t, []api.Form{bracket(0, 1), bracket(0, 0)}, 0, 1)
	wantBelow(t, []api.Form{bracket(0, 1), bracket(0, 0)}, 1)
	wantBelow(t, []api.Form{bracket(0, 2, 1), bracket(0, 2), bracket(0, 1)}, 0, 2, 1, 2)
	wantBelow(t, []api.Form{bracket(0, 1, 1), bracket(0, 2, 2), name("a", 0)}, 0, 1, 2, 2, 1, 2, 2)
	wantBelow(t, []api.Form{bracket(0, 3), bracket(0), bracket(0), bracket(0, 2, 4), name("a", 0)}, 0, 3, 4)
	// Kids of words are kids, too.
	wantBelow(t, []api.Form{{Kind: api.Name, Kids: []int{1}}, {Kind: api.Number, Kids: []int{2}}, {Kids: []int{3}}, {Kind: 99}}, 0, 1, 2, 3)
	for which := range uint64(3000) {
		l := wild(int(which%12)+1, which)
		for at := -1; at <= len(l); at++ {
			wantBelow(t, l, at, plainBelow(l, at)...)
			if got, want := Depth(l, []int{at}), plainDepth(l, -1, []int{at}); got != want {
				t.Errorf("%v: Depth from %d on is %d, not %d", l, at, got, want)
			}
		}
	}
}

// No more than MaxForms are told.
func TestP7_2BelowMaxForms(t *testing.T) {
	for _, n := range []int{1, 2, 399, 400, 401, 402, 2000} {
		l := wide(n)
		if got, want := Size(l, 0), min(n, 401); got != want {
			t.Errorf("%d wide: %d, not %d", n, got, want)
		}
		if got := Below(l, 0); !slices.Equal(got, plainBelow(l, 0)) || len(got) != min(n-1, 400) {
			t.Errorf("%d wide: %d", n, len(got))
		}
		l = nested(n)
		if got, want := Size(l, 0), min(n, 401); got != want {
			t.Errorf("%d deep: %d, not %d", n, got, want)
		}
		if got := Below(l, 0); !slices.Equal(got, plainBelow(l, 0)) || len(got) != min(n-1, 400) {
			t.Errorf("%d deep: %d", n, len(got))
		}
		l = []api.Form{bracket(0, slices.Repeat([]int{1}, n-1)...), name("a", 1)}
		if got := Below(l, 0); !slices.Equal(got, slices.Repeat([]int{1}, min(n-1, 400))) || Size(l, 0) != min(n, 401) {
			t.Errorf("%d met: %d, %d", n, len(got), Size(l, 0))
		}
	}
}

func TestP1NilLists(t *testing.T) {
	wantParse(t, nil, nil, nil)
	if !Right(nil, nil) || Right(nil, []int{0}) || Depth(nil, nil) != 0 || Depth(nil, []int{-1, 0, 1}) != 0 || Size(nil, 0) != 0 || len(Below(nil, 0)) != 0 {
		t.Error("of nothing")
	}
	wantNoAlone(t, nil, 0, api.ErrRange)
	wantNoBoth(t, nil, []int{0}, nil, nil, api.ErrForm)
	wantNoBoth(t, nil, nil, nil, []int{0}, api.ErrForm)
	if l, top, e := Both(nil, nil, nil, nil); len(l) != 0 || len(top) != 0 || e != api.OK {
		t.Error(l, top, e)
	}
}

// Where kids meet in one form many times, the ways down are without number, and the calls end.
func TestP1WalksOfListsThatMeet(t *testing.T) {
	for _, n := range []int{9, 10, 64, 100, 2000, 100000} {
		l := meeting(n)
		if got := Below(l, 0); !slices.Equal(got, plainBelow(l, 0)) || len(got) != 400 || Size(l, 0) != 401 || Depth(l, []int{0}) != min(n, 13) {
			t.Errorf("%d: %d, %d, %d", n, len(got), Size(l, 0), Depth(l, []int{0}))
		}
		if _, _, e := Alone(l, 0); e != api.ErrSpace {
			t.Errorf("%d: %d", n, e)
		}
	}
	l := meeting(8)
	if len(Below(l, 0)) != 254 || Size(l, 0) != 255 {
		t.Error(Size(l, 0))
	}
}
