package tree

import (
	"math"
	"slices"
	"strings"
	"testing"

	"reticule/api"
)

func wantAlone(t *testing.T, l []api.Form, at int, want ...api.Form) {
	t.Helper()
	got, top, e := Alone(l, at)
	if !sameForms(got, want) || !slices.Equal(top, []int{0}) || e != api.OK {
		t.Errorf("%v at %d: %v, %v, %d, not %v", l, at, got, top, e, want)
	}
}

func wantNoAlone(t *testing.T, l []api.Form, at int, want api.Errno) {
	t.Helper()
	if got, top, e := Alone(l, at); len(got) != 0 || len(top) != 0 || e != want {
		t.Errorf("%d forms at %d: %d forms, %v, %d, not %d", len(l), at, len(got), top, e, want)
	}
}

func TestP7_6Alone(t *testing.T) {
	l, _ := formsOf(t, "(a (b 1) ()) c (d)")
	wantAlone(t, l, 0, l[:6]...)
	wantAlone(t, l, 1, name("a", 1))
	wantAlone(t, l, 2, bracket(3, 1, 2), name("b", 4), number(1, 6))
	wantAlone(t, l, 4, number(1, 6))
	wantAlone(t, l, 5, bracket(9))
	wantAlone(t, l, 7, bracket(15, 1), name("d", 16))
	for _, at := range []int{-1, 9, 10, math.MinInt, math.MaxInt} {
		wantNoAlone(t, l, at, api.ErrRange)
	}
	wantNoAlone(t, nil, 0, api.ErrRange)
	wantNoAlone(t, []api.Form{}, 0, api.ErrRange)
}

// Forms that are met more than once stand there as often; kids that are passed over are none; all else stays.
func TestP7_6AloneOfAnyList(t *testing.T) {
	wantAlone(t, []api.Form{bracket(7, 0, -1, 1, 5)}, 0, bracket(7))
	wantAlone(t, []api.Form{bracket(7, 1), bracket(8, 0, 1, 2)}, 0, bracket(7, 1), bracket(8))
	wantAlone(t, []api.Form{bracket(7, 0, 1, -1, 1, 9), bracket(8, 2, 2), name("x", 9)}, 0, bracket(7, 1, 4), bracket(8, 2, 3), name("x", 9), name("x", 9), bracket(8, 5, 6), name("x", 9), name("x", 9))
	wantAlone(t, []api.Form{bracket(1), bracket(2, 3, 2), name("a", 3), bracket(4, 2)}, 1, bracket(2, 1, 2), bracket(4), name("a", 3))
	odd := api.Form{Kind: 99, Text: "No", Num: 5, Kids: []int{1}, At: -3}
	alsoOdd := api.Form{Kind: api.Name, Text: "", Num: -1, Kids: []int{0}, At: math.MaxInt}
	wantAlone(t, []api.Form{odd, alsoOdd}, 0, odd, api.Form{Kind: api.Name, Num: -1, At: math.MaxInt})
	for which := range uint64(2000) {
		l := wild(int(which%12)+1, which)
		for at := range l {
			if Size(l, at) > 400 {
				wantNoAlone(t, l, at, api.ErrSpace)
				continue
			}
			got, _, _ := Alone(l, at)
			aloneIsBelow(t, l, at, got)
		}
	}
}

// aloneIsBelow holds a form's list against the forms below it: the same ones, and kids as many places on as there are forms between.
func aloneIsBelow(t *testing.T, l []api.Form, at int, got []api.Form) {
	t.Helper()
	places := append([]int{at}, plainBelow(l, at)...)
	if len(got) != len(places) {
		t.Fatalf("%v at %d: %v", l, at, got)
	}
	for i, place := range places {
		var kids []int
		next := i + 1
		for _, kid := range l[place].Kids {
			if kid > place && kid < len(l) {
				kids = append(kids, next)
				next += len(plainBelow(l, kid)) + 1
			}
		}
		want := l[place]
		want.Kids = kids
		if !sameForm(got[i], want) {
			t.Errorf("%v at %d: %v is %v, not %v", l, at, i, got[i], want)
		}
	}
}

func TestP7_6AloneMaxForms(t *testing.T) {
	for _, l := range [][]api.Form{wide(400), nested(400), {bracket(0, slices.Repeat([]int{1}, 399)...), name("a", 1)}} {
		got, top, e := Alone(l, 0)
		if len(got) != 400 || !slices.Equal(top, []int{0}) || e != api.OK {
			t.Error(len(got), top, e)
		}
	}
	for _, l := range [][]api.Form{wide(401), nested(401), wide(500), {bracket(0, slices.Repeat([]int{1}, 400)...), name("a", 1)}} {
		wantNoAlone(t, l, 0, api.ErrSpace)
		wantNoAlone(t, l, -1, api.ErrRange)
		wantNoAlone(t, l, len(l), api.ErrRange)
	}
	l := nested(401)
	if got, _, e := Alone(l, 1); len(got) != 400 || e != api.OK {
		t.Error(len(got), e)
	}
}

func TestP7_6AloneOfRightIsRight(t *testing.T) {
	for _, text := range texts() {
		l, _ := formsOf(t, text)
		for at := range l {
			if got, top, e := Alone(l, at); e != api.OK || !Right(got, top) || len(got) != Size(l, at) {
				t.Errorf("%q at %d: %v, %v, %d", text, at, got, top, e)
			}
		}
	}
}

func TestP7_6Both(t *testing.T) {
	l, top := formsOf(t, "(a (b 1)) c")
	m, also := formsOf(t, "7 ((d) 8)")
	got, all, e := Both(l, top, m, also)
	want := []api.Form{bracket(0, 1, 2), name("a", 1), bracket(3, 3, 4), name("b", 4), number(1, 6), name("c", 10), number(7, 0), bracket(2, 8, 10), bracket(3, 9), name("d", 4), number(8, 7)}
	if !sameForms(got, want) || !slices.Equal(all, []int{0, 5, 6, 7}) || e != api.OK {
		t.Errorf("%v, %v, %d", got, all, e)
	}
	for _, a := range texts() {
		for _, b := range texts() {
			l, top := formsOf(t, a)
			m, also := formsOf(t, b)
			got, all, e := Both(l, top, m, also)
			want, wantAll := formsOf(t, a+" "+b)
			for i := len(l); i < len(want); i++ {
				want[i].At -= len(a) + 1
			}
			if !sameForms(got, want) || !slices.Equal(all, wantAll) || e != api.OK || !Right(got, all) {
				t.Errorf("%q, %q: %v, %v, %d", a, b, got, all, e)
			}
		}
	}
	if got, all, e := Both(nil, nil, nil, nil); len(got) != 0 || len(all) != 0 || e != api.OK {
		t.Error(got, all, e)
	}
}

func wantNoBoth(t *testing.T, l []api.Form, top []int, m []api.Form, also []int, want api.Errno) {
	t.Helper()
	if got, all, e := Both(l, top, m, also); len(got) != 0 || len(all) != 0 || e != want {
		t.Errorf("%d and %d forms: %d forms, %d, %d, not %d", len(l), len(m), len(got), len(all), e, want)
	}
}

func TestP7_6BothErrors(t *testing.T) {
	l, top := formsOf(t, "(a (b 1)) c")
	full, fullTop := names(400)
	most, mostTop := names(401)
	for _, wrong := range [][]int{nil, {0}, {0, 5, 5}, {5, 0}, {0, 6}, {-1, 0, 5}} {
		wantNoBoth(t, l, wrong, l, top, api.ErrForm)
		wantNoBoth(t, l, top, l, wrong, api.ErrForm)
		wantNoBoth(t, l, wrong, full, fullTop, api.ErrForm) // ahead of ErrSpace
		wantNoBoth(t, full, fullTop, l, wrong, api.ErrForm)
	}
	wantNoBoth(t, most, mostTop, nil, nil, api.ErrForm)
	wantNoBoth(t, nil, nil, most, mostTop, api.ErrForm)
	wantNoBoth(t, full, fullTop, full, fullTop, api.ErrSpace)
	deep := nested(13)
	wantNoBoth(t, deep, []int{0}, l, top, api.ErrForm)
	wantNoBoth(t, l, top, deep, []int{0}, api.ErrForm)
	wantNoBoth(t, []api.Form{name("B", 0)}, []int{0}, nil, nil, api.ErrForm)
	wantNoBoth(t, nil, nil, []api.Form{{}}, []int{0}, api.ErrForm)
}

func TestP7_6BothMaxForms(t *testing.T) {
	for _, n := range []int{0, 1, 200, 399, 400} {
		l, top := names(n)
		m, also := names(400 - n)
		got, all, e := Both(l, top, m, also)
		if len(got) != 400 || len(all) != 400 || e != api.OK || !Right(got, all) {
			t.Error(n, len(got), len(all), e)
		}
		more, moreTop := names(401 - n)
		if n > 0 {
			wantNoBoth(t, l, top, more, moreTop, api.ErrSpace)
			wantNoBoth(t, more, moreTop, l, top, api.ErrSpace)
		}
	}
}

// E4: the deepest brackets stay as deep, one list behind the other.
func TestE4BothAsDeepAsMayBe(t *testing.T) {
	l, top := formsOf(t, strings.Repeat("(", 12)+strings.Repeat(")", 12))
	got, all, e := Both(l, top, l, top)
	if e != api.OK || Depth(got, all) != 12 {
		t.Error(got, all, e)
	}
}
