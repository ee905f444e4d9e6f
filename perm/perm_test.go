package perm

import (
	"math"
	"slices"
	"testing"

	"reticule/api"
)

// The calls have the signatures that the chapter lists.
var (
	_ func(n int, k uint64) ([]int, api.Errno) = From
	_ func([]int) (uint64, api.Errno)          = Number
	_ func([]int) bool                         = Right
	_ func(int) uint64                         = Many
	_ func(p, l []int) ([]int, api.Errno)      = Turn
	_ func([]int) ([]int, api.Errno)           = Back
	_ func(p, q []int) ([]int, api.Errno)      = Then
	_ func(l []int, cuts uint64) [][]int       = Groups
)

// rows are all orders of n things, the least first, found by trying every number at every place.
func rows(n int) [][]int {
	out := [][]int{{}}
	for range n {
		var longer [][]int
		for _, p := range out {
			for v := range n {
				if !slices.Contains(p, v) {
					longer = append(longer, append(slices.Clone(p), v))
				}
			}
		}
		out = longer
	}
	return out
}

func count(n int) []int {
	p := make([]int, n)
	for i := range p {
		p[i] = i
	}
	return p
}

func countDown(n int) []int {
	p := count(n)
	slices.Reverse(p)
	return p
}

// noOrders are lists that are no order.
func noOrders() [][]int {
	return [][]int{
		{1}, {-1}, {0, 0}, {1, 1}, {0, 2}, {1, 2}, {-1, 0}, {0, 1, 3}, {2, 1, 2}, {0, 1, -2}, {math.MinInt}, {math.MaxInt}, {0, math.MaxInt},
		{0, 1, 2, 3, 4, 5, 6, 7, 8, 9, 10, 11, 12, 13, 14, 16}, {0, 1, 2, 3, 4, 5, 6, 7, 8, 9, 10, 11, 12, 13, 14, 14},
		count(api.MaxPerm + 1), count(1000), make([]int, api.MaxPerm+1),
	}
}

// orders are orders of all lengths, and of numbers all over each length.
func orders(t *testing.T) [][]int {
	var out [][]int
	for n := range api.MaxPerm + 1 {
		for _, k := range []uint64{0, 1, 2, 5, 23, 1234567, 999999999999, math.MaxUint64} {
			p, e := From(n, k)
			if e != api.OK {
				t.Fatal(n, k, e)
			}
			out = append(out, p)
		}
	}
	return out
}

func TestP2_1Many(t *testing.T) {
	for n, want := range []uint64{1, 1, 2, 6, 24, 120, 720, 5040, 40320, 362880, 3628800, 39916800, 479001600, 6227020800, 87178291200, 1307674368000, 20922789888000} {
		if Many(n) != want {
			t.Errorf("Many(%d) is %d", n, Many(n))
		}
	}
	for _, n := range []int{-1, api.MaxPerm + 1, 100, math.MinInt, math.MaxInt} {
		if Many(n) != 0 {
			t.Errorf("Many(%d) is %d", n, Many(n))
		}
	}
}

func TestP2_1FromAndNumberOfEachOrder(t *testing.T) {
	for n := range 8 {
		for i, want := range rows(n) {
			if p, e := From(n, uint64(i)); !slices.Equal(p, want) || e != api.OK {
				t.Errorf("From(%d, %d) is %v, %d, not %v", n, i, p, e, want)
			}
			if k, e := Number(want); k != uint64(i) || e != api.OK {
				t.Errorf("Number(%v) is %d, %d", want, k, e)
			}
			if !Right(want) {
				t.Errorf("Right(%v)", want)
			}
		}
	}
}

func TestP2_1FromGoesModuloMany(t *testing.T) {
	for n := range api.MaxPerm + 1 {
		for _, k := range []uint64{0, 1, 2, 5, Many(n) - 1} {
			want, _ := From(n, k%Many(n))
			for _, more := range []uint64{0, 1, 2, 1000} {
				if p, e := From(n, k+more*Many(n)); !slices.Equal(p, want) || e != api.OK {
					t.Errorf("From(%d, %d and %d rounds) is %v, not %v", n, k, more, p, want)
				}
			}
		}
		last, _ := From(n, Many(n)-1)
		if !slices.Equal(last, countDown(n)) {
			t.Errorf("the last of %d is %v", n, last)
		}
	}
	p, e := From(api.MaxPerm, math.MaxUint64)
	k, _ := Number(p)
	if e != api.OK || k != math.MaxUint64%20922789888000 {
		t.Error(p, e, k)
	}
	if p, e := From(0, math.MaxUint64); len(p) != 0 || e != api.OK {
		t.Error(p, e)
	}
}

func TestP2_1FromRefuses(t *testing.T) {
	for _, n := range []int{-1, -100, api.MaxPerm + 1, math.MinInt, math.MaxInt} {
		if p, e := From(n, 3); len(p) != 0 || e != api.ErrRange {
			t.Errorf("From(%d) is %v, %d", n, p, e)
		}
	}
}

func TestP2_1NumberAndRightOfWhatIsNoOrder(t *testing.T) {
	for _, p := range noOrders() {
		if Right(p) {
			t.Errorf("Right(%v)", p)
		}
		if k, e := Number(p); k != 0 || e != api.ErrForm {
			t.Errorf("Number(%v) is %d, %d", p, k, e)
		}
	}
}

func TestP2_1EdgesOfLength(t *testing.T) {
	if !Right(nil) || !Right([]int{}) || !Right(count(api.MaxPerm)) || !Right(countDown(api.MaxPerm)) {
		t.Error("Right")
	}
	if k, e := Number(nil); k != 0 || e != api.OK {
		t.Error("nil", k, e)
	}
	if k, e := Number(count(api.MaxPerm)); k != 0 || e != api.OK {
		t.Error("the first", k, e)
	}
	if k, e := Number(countDown(api.MaxPerm)); k != 20922789888000-1 || e != api.OK {
		t.Error("the last", k, e)
	}
}

func TestP2_2Turn(t *testing.T) {
	if l, e := Turn([]int{2, 0, 1}, []int{5, 6, 7}); !slices.Equal(l, []int{7, 5, 6}) || e != api.OK {
		t.Error(l, e)
	}
	if l, e := Turn([]int{1, 0}, []int{-4, -4}); !slices.Equal(l, []int{-4, -4}) || e != api.OK {
		t.Error(l, e)
	}
	if l, e := Turn(nil, nil); len(l) != 0 || e != api.OK {
		t.Error(l, e)
	}
	if l, e := Turn(countDown(api.MaxPerm), count(api.MaxPerm)); !slices.Equal(l, countDown(api.MaxPerm)) || e != api.OK {
		t.Error(l, e)
	}
	for _, p := range noOrders() {
		if l, e := Turn(p, count(len(p))); len(l) != 0 || e != api.ErrForm {
			t.Errorf("Turn(%v) is %v, %d", p, l, e)
		}
	}
	for _, x := range [][2][]int{{{0, 1}, {5}}, {{0, 1}, {5, 6, 7}}, {{0}, nil}, {nil, {5}}} {
		if l, e := Turn(x[0], x[1]); len(l) != 0 || e != api.ErrForm {
			t.Errorf("Turn(%v, %v) is %v, %d", x[0], x[1], l, e)
		}
	}
}

func TestP2_2Back(t *testing.T) {
	for _, p := range orders(t) {
		back, e := Back(p)
		if e != api.OK || len(back) != len(p) {
			t.Fatalf("Back(%v) is %v, %d", p, back, e)
		}
		for i := range p {
			if back[p[i]] != i {
				t.Errorf("Back(%v) is %v", p, back)
			}
		}
	}
	if b, e := Back([]int{2, 0, 1}); !slices.Equal(b, []int{1, 2, 0}) || e != api.OK {
		t.Error(b, e)
	}
	if b, e := Back(nil); len(b) != 0 || e != api.OK {
		t.Error(b, e)
	}
	for _, p := range noOrders() {
		if b, e := Back(p); len(b) != 0 || e != api.ErrForm {
			t.Errorf("Back(%v) is %v, %d", p, b, e)
		}
	}
}

func TestP2_2Then(t *testing.T) {
	for _, p := range rows(4) {
		for _, q := range rows(4) {
			want, _ := Turn(q, p)
			got, e := Then(p, q)
			if !slices.Equal(got, want) || e != api.OK {
				t.Errorf("Then(%v, %v) is %v, %d, not %v", p, q, got, e, want)
			}
		}
	}
	if l, e := Then([]int{1, 2, 0}, []int{0, 2, 1}); !slices.Equal(l, []int{1, 0, 2}) || e != api.OK {
		t.Error(l, e)
	}
	if l, e := Then(nil, nil); len(l) != 0 || e != api.OK {
		t.Error(l, e)
	}
	for _, p := range noOrders() {
		for _, x := range [][2][]int{{p, count(len(p))}, {count(len(p)), p}, {p, p}} {
			if l, e := Then(x[0], x[1]); len(l) != 0 || e != api.ErrForm {
				t.Errorf("Then(%v, %v) is %v, %d", x[0], x[1], l, e)
			}
		}
	}
	for _, x := range [][2][]int{{{0, 1}, {0}}, {{0}, {0, 1}}, {nil, {0}}, {{0}, nil}} {
		if l, e := Then(x[0], x[1]); len(l) != 0 || e != api.ErrForm {
			t.Errorf("Then(%v, %v) is %v, %d", x[0], x[1], l, e)
		}
	}
}

func sameRows(a, b [][]int) bool { return slices.EqualFunc(a, b, slices.Equal) }

func TestP2_2Groups(t *testing.T) {
	for _, x := range []struct {
		l    []int
		cuts uint64
		want [][]int
	}{
		{[]int{5, 6, 7}, 1, [][]int{{5}, {6, 7}}},
		{[]int{5, 6, 7}, 0, [][]int{{5, 6, 7}}},
		{[]int{5, 6, 7}, 2, [][]int{{5, 6}, {7}}},
		{[]int{5, 6, 7}, 4, [][]int{{5, 6, 7}}},
		{[]int{5, 6, 7}, 3, [][]int{{5}, {6}, {7}}},
		{[]int{5, 6, 7}, math.MaxUint64, [][]int{{5}, {6}, {7}}},
		{[]int{5, 6, 7}, 1 << 63, [][]int{{5, 6, 7}}},
		{[]int{-5}, 0, [][]int{{-5}}},
		{[]int{-5}, 1, [][]int{{-5}}},
		{nil, 0, nil},
		{nil, math.MaxUint64, nil},
		{[]int{}, 1, nil},
	} {
		if got := Groups(x.l, x.cuts); !sameRows(got, x.want) {
			t.Errorf("Groups(%v, %b) is %v", x.l, x.cuts, got)
		}
	}
}

func TestP2_2GroupsAtAndBeyondTheLastBit(t *testing.T) {
	l := count(130)
	if g := Groups(l, 1<<63); !sameRows(g, [][]int{l[:64], l[64:]}) {
		t.Error("the bit 63:", g)
	}
	if g := Groups(l[:64], 1<<63); !sameRows(g, [][]int{l[:64]}) {
		t.Error("the bit 63 at the end:", g)
	}
	if g := Groups(l[:65], 1<<63); !sameRows(g, [][]int{l[:64], l[64:65]}) {
		t.Error("the bit 63 ahead of the end:", g)
	}
	if g := Groups(l, 1); !sameRows(g, [][]int{l[:1], l[1:]}) {
		t.Error("the place 64 has no bit:", g)
	}
	g := Groups(l, math.MaxUint64)
	if len(g) != 65 || !slices.Equal(g[64], l[64:]) {
		t.Error("all bits:", g)
	}
}

func TestP2_3FromAndNumberTakeOneAnotherBack(t *testing.T) {
	for n := range api.MaxPerm + 1 {
		for _, k := range []uint64{0, 1, 2, 5, 719, 1234567, 999999999999, 20922789887999} {
			p, _ := From(n, k)
			got, e := Number(p)
			if !Right(p) || len(p) != n || got != k%Many(n) || e != api.OK {
				t.Errorf("Number(From(%d, %d)) is %d, %d", n, k, got, e)
			}
			again, e := From(n, got)
			if !slices.Equal(again, p) || e != api.OK {
				t.Errorf("From(%d, Number(%v)) is %v, %d", n, p, again, e)
			}
		}
	}
}

func TestP2_4TurnByBackTakesTurnBack(t *testing.T) {
	for _, p := range orders(t) {
		l := make([]int, len(p))
		for i := range l {
			l[i] = 100 - 7*i
		}
		turned, _ := Turn(p, l)
		back, _ := Back(p)
		if again, e := Turn(back, turned); !slices.Equal(again, l) || e != api.OK {
			t.Errorf("%v: %v, %d", p, again, e)
		}
		if none, e := Then(p, back); !slices.Equal(none, count(len(p))) || e != api.OK {
			t.Errorf("%v: %v, %d", p, none, e)
		}
	}
}

func TestP2_5GroupsAreTheThings(t *testing.T) {
	for n := range 80 {
		l := countDown(n)
		for _, cuts := range []uint64{0, 1, 2, 5, 0xaaaa, 0x8000000000000001, 0x0123456789abcdef, math.MaxUint64} {
			g := Groups(l, cuts)
			if !slices.Equal(slices.Concat(g...), l) {
				t.Errorf("%d with %x: %v", n, cuts, g)
			}
			if slices.ContainsFunc(g, func(row []int) bool { return len(row) == 0 }) {
				t.Errorf("%d with %x: an empty row", n, cuts)
			}
		}
	}
}
