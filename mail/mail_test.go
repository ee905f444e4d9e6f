package mail

import (
	"math"
	"math/bits"
	"slices"
	"testing"

	"reticule/api"
	"reticule/proof"
)

// The calls have the signatures that the chapter lists.
var (
	_ func([]api.Message) []api.Message                                = Sorted
	_ func([]api.Message, uint64) []api.Message                        = Turned
	_ func([]api.Message, []api.Op) ([]api.Message, api.Errno)         = Combined
	_ func([]api.Message, int) []api.Message                           = For
	_ func(api.Word, api.Op, int, []api.Message) (api.Word, api.Errno) = Taken
	_ func([]api.Message) ([]byte, api.Errno)                          = Encode
	_ func([]byte) ([]api.Message, int, api.Errno)                     = Decode
)

func message(to, tag int, val api.Word) api.Message {
	return api.Message{To: to, Tag: tag, Val: val}
}

// numbered are n messages, no two of them alike, and not in their order.
func numbered(n int) []api.Message {
	var l []api.Message
	for i := range n {
		l = append(l, message(i*5%12, i%4, api.Word(i*37%101)))
	}
	return l
}

// ahead tells whether a message stands ahead of another one, by To, then by Tag, then by Val.
func ahead(a, b api.Message) bool {
	if a.To != b.To {
		return a.To < b.To
	}
	if a.Tag != b.Tag {
		return a.Tag < b.Tag
	}
	return a.Val < b.Val
}

// insorted are messages put one by one behind those that they do not stand ahead of.
func insorted(l []api.Message) []api.Message {
	var out []api.Message
	for _, m := range l {
		at := 0
		for at < len(out) && !ahead(m, out[at]) {
			at++
		}
		out = slices.Insert(out, at, m)
	}
	return out
}

func wantList(t *testing.T, what string, got, want []api.Message) {
	t.Helper()
	if !slices.Equal(got, want) {
		t.Errorf("%s: %v, not %v", what, got, want)
	}
}

func TestP21_1Sorted(t *testing.T) {
	for what, c := range map[string]struct{ l, want []api.Message }{
		"none":           {nil, nil},
		"an empty list":  {[]api.Message{}, nil},
		"one":            {[]api.Message{message(3, 2, 1)}, []api.Message{message(3, 2, 1)}},
		"alike":          {[]api.Message{message(1, 1, 1), message(1, 1, 1)}, []api.Message{message(1, 1, 1), message(1, 1, 1)}},
		"To alone":       {[]api.Message{message(2, 1, 1), message(1, 1, 1)}, []api.Message{message(1, 1, 1), message(2, 1, 1)}},
		"Tag alone":      {[]api.Message{message(1, 2, 1), message(1, 1, 1)}, []api.Message{message(1, 1, 1), message(1, 2, 1)}},
		"Val alone":      {[]api.Message{message(1, 1, 2), message(1, 1, 1)}, []api.Message{message(1, 1, 1), message(1, 1, 2)}},
		"To before Tag":  {[]api.Message{message(2, 0, 0), message(1, 9, 9)}, []api.Message{message(1, 9, 9), message(2, 0, 0)}},
		"Tag before Val": {[]api.Message{message(1, 2, 0), message(1, 1, 9)}, []api.Message{message(1, 1, 9), message(1, 2, 0)}},
		"To below 0":     {[]api.Message{message(0, 0, 0), message(-1, 5, 5), message(math.MinInt, 9, 9)}, []api.Message{message(math.MinInt, 9, 9), message(-1, 5, 5), message(0, 0, 0)}},
		"Tag below 0":    {[]api.Message{message(0, 0, 0), message(0, -1, 5), message(0, math.MinInt, 9)}, []api.Message{message(0, math.MinInt, 9), message(0, -1, 5), message(0, 0, 0)}},
		"Val below 0":    {[]api.Message{message(0, 0, math.MaxInt64), message(0, 0, 0), message(0, 0, -1), message(0, 0, math.MinInt64)}, []api.Message{message(0, 0, math.MinInt64), message(0, 0, -1), message(0, 0, 0), message(0, 0, math.MaxInt64)}},
	} {
		wantList(t, what, Sorted(c.l), c.want)
	}
}

func TestP21_1SortedOfAllShortLists(t *testing.T) {
	var some []api.Message
	for _, to := range []int{-1, 0, 11} {
		for _, tag := range []int{-2, 3} {
			some = append(some, message(to, tag, -7), message(to, tag, 8))
		}
	}
	proof.Rows(3, some, func(l []api.Message) {
		wantList(t, "Sorted", Sorted(l), insorted(l))
	})
	for n := range 100 {
		l := numbered(n)
		wantList(t, "Sorted", Sorted(l), insorted(l))
		slices.Reverse(l)
		wantList(t, "Sorted", Sorted(l), insorted(l))
	}
}

// turned are the messages of a row in the order whose number is k: the first one is that ahead of which so many stand as the orders of the rest fit into k.
func turned(row []api.Message, k uint64) []api.Message {
	rest, behind := slices.Clone(row), uint64(1)
	for i := range len(row) {
		behind *= uint64(i + 1)
	}
	k %= behind
	var out []api.Message
	for len(rest) > 0 {
		behind /= uint64(len(rest))
		at := int(k / behind)
		k -= uint64(at) * behind
		out = append(out, rest[at])
		rest = slices.Delete(rest, at, at+1)
	}
	return out
}

// turnedRows is what Turned should be.
func turnedRows(l []api.Message, k uint64) []api.Message {
	var out []api.Message
	for at := 0; at < len(l); at += 16 {
		row := turned(l[at:min(at+16, len(l))], k)
		if bits.TrailingZeros64(k) == 0 {
			out = append(row, out...)
		} else {
			out = append(out, row...)
		}
	}
	return out
}

// seeds are even and odd numbers, small ones, and the greatest ones; 20922789888000 is how many orders of 16 there are.
func seeds() []uint64 {
	return []uint64{0, 1, 2, 3, 4, 5, 6, 7, 23, 24, 720, 5041, 20922789887999, 20922789888000, 20922789888001, 1<<63 - 1, 1 << 63, math.MaxUint64 - 1, math.MaxUint64}
}

func TestP21_1Turned(t *testing.T) {
	a, b, c := message(0, 0, 1), message(2, 1, 2), message(1, 5, 3)
	for _, x := range []struct {
		k    uint64
		want []api.Message
	}{
		{0, []api.Message{a, b, c}}, {1, []api.Message{a, c, b}}, {2, []api.Message{b, a, c}}, {3, []api.Message{b, c, a}},
		{4, []api.Message{c, a, b}}, {5, []api.Message{c, b, a}}, {6, []api.Message{a, b, c}}, {7, []api.Message{a, c, b}},
	} {
		wantList(t, "Turned", Turned([]api.Message{a, b, c}, x.k), x.want)
	}
	for _, k := range seeds() {
		if l := Turned(nil, k); len(l) != 0 {
			t.Error(l)
		}
		if l := Turned([]api.Message{}, k); len(l) != 0 {
			t.Error(l)
		}
		wantList(t, "Turned of one", Turned([]api.Message{a}, k), []api.Message{a})
	}
}

func TestP21_1TurnedInRows(t *testing.T) {
	l := numbered(2*api.MaxPerm + 3)
	first, second, third := l[:16], l[16:32], l[32:]
	wantList(t, "0", Turned(l, 0), l)
	wantList(t, "6", Turned(l, 6), slices.Concat(turned(first, 6), turned(second, 6), third))
	swapped := func(row []api.Message) []api.Message {
		return append(slices.Clone(row[:len(row)-2]), row[len(row)-1], row[len(row)-2])
	}
	wantList(t, "1", Turned(l, 1), slices.Concat(swapped(third), swapped(second), swapped(first)))
	wantList(t, "a full row, 1", Turned(first, 1), swapped(first))
	wantList(t, "one more, 1", Turned(l[:17], 1), append([]api.Message{l[16]}, swapped(first)...))
	wantList(t, "one more, 2", Turned(l[:17], 2)[16:], l[16:17])
	reversed := slices.Clone(first)
	slices.Reverse(reversed)
	wantList(t, "the last order", Turned(first, 20922789887999), reversed)
	wantList(t, "one round", Turned(l, 20922789888000), l)
}

func TestP21_1TurnedOfAllLengths(t *testing.T) {
	for n := range 70 {
		for _, k := range seeds() {
			wantList(t, "Turned", Turned(numbered(n), k), turnedRows(numbered(n), k))
		}
	}
}

func TestP21_2TurnedAreTheMessagesEachOnce(t *testing.T) {
	for n := range 70 {
		for _, k := range seeds() {
			l := numbered(n)
			wantList(t, "Turned", insorted(Turned(l, k)), insorted(l))
		}
	}
	alike := []api.Message{message(1, 1, 1), message(1, 1, 1), message(1, 1, 1), message(2, 1, 1)}
	for k := range uint64(50) {
		wantList(t, "alike", insorted(Turned(alike, k)), alike)
	}
}

func TestP21_1For(t *testing.T) {
	l := []api.Message{message(2, 1, 5), message(0, 0, 1), message(2, 1, 5), message(-1, 3, 4), message(2, 0, -9), message(11, 0, 7), message(12, 5, 8)}
	for to, want := range map[int][]api.Message{
		2: {message(2, 1, 5), message(2, 1, 5), message(2, 0, -9)}, 0: {message(0, 0, 1)}, 11: {message(11, 0, 7)},
		1: nil, 3: nil, 10: nil, 13: nil, -2: nil, math.MinInt: nil, math.MaxInt: nil,
		-1: {message(-1, 3, 4)}, 12: {message(12, 5, 8)},
	} {
		wantList(t, "For", For(l, to), want)
		if len(For(nil, to)) != 0 || len(For([]api.Message{}, to)) != 0 {
			t.Error(to)
		}
	}
	right := l[:3]
	for _, to := range []int{-1, 1, 12, 256, 258, 1 << 32, 1<<32 + 2, math.MinInt, math.MaxInt} {
		wantList(t, "no node's", For(right, to), nil)
	}
}
