package mail

import (
	"math"
	"slices"
	"testing"

	"reticule/api"
	"reticule/proof"
)

func TestP21_5Encode(t *testing.T) {
	for _, c := range []struct {
		l    []api.Message
		want []byte
	}{
		{nil, nil},
		{[]api.Message{}, nil},
		{[]api.Message{message(0, 0, 0)}, make([]byte, 10)},
		{[]api.Message{message(2, 1, 5)}, []byte{2, 1, 0, 0, 0, 0, 0, 0, 0, 5}},
		{[]api.Message{message(11, 5, 0x0102030405060708)}, []byte{11, 5, 1, 2, 3, 4, 5, 6, 7, 8}},
		{[]api.Message{message(3, 4, -2), message(1, 0, math.MinInt64), message(3, 4, -2), message(0, 5, math.MaxInt64)}, []byte{
			3, 4, 255, 255, 255, 255, 255, 255, 255, 254,
			1, 0, 128, 0, 0, 0, 0, 0, 0, 0,
			3, 4, 255, 255, 255, 255, 255, 255, 255, 254,
			0, 5, 127, 255, 255, 255, 255, 255, 255, 255,
		}},
	} {
		if b, e := Encode(c.l); e != api.OK || !slices.Equal(b, c.want) {
			t.Errorf("Encode(%v): %v, %d", c.l, b, e)
		}
	}
}

// odd are numbers of nodes and tags at the limits, and just past, and such as look like right ones if only their lowest bits are seen.
func odd() []int {
	return []int{math.MinInt, -1 << 32, -256, -251, -1, 0, 1, 4, 5, 6, 7, 10, 11, 12, 13, 255, 256, 257, 1 << 32, 1<<32 + 1, math.MaxInt}
}

func mayBe(to, tag int) bool { return to >= 0 && to <= 11 && tag >= 0 && tag <= 5 }

func TestP21_5EncodeAtAndPastTheLimits(t *testing.T) {
	right := 0
	for _, to := range odd() {
		for _, tag := range odd() {
			for _, l := range [][]api.Message{
				{message(to, tag, 7)}, {message(to, tag, 7), message(1, 1, 1)}, {message(1, 1, 1), message(to, tag, 7)},
			} {
				b, e := Encode(l)
				if mayBe(to, tag) {
					right++
					if e != api.OK || len(b) != 10*len(l) {
						t.Errorf("%v: %v, %d", l, b, e)
					}
				} else if e != api.ErrRange || len(b) != 0 {
					t.Errorf("%v: %v, %d", l, b, e)
				}
			}
		}
	}
	if right != 3*8*4 {
		t.Error(right)
	}
}

func wantDecoded(t *testing.T, b []byte, want []api.Message) {
	t.Helper()
	if l, at, e := Decode(b); e != api.OK || at != 0 || !slices.Equal(l, want) {
		t.Errorf("Decode(%v): %v, %d, %d, not %v", b, l, at, e, want)
	}
}

func wantWrong(t *testing.T, b []byte, want int) {
	t.Helper()
	if l, at, e := Decode(b); e != api.ErrForm || at != want || len(l) != 0 {
		t.Errorf("Decode(%v): %v, %d, %d, not %d", b, l, at, e, want)
	}
}

func TestP21_5DecodeTakesEncodeBack(t *testing.T) {
	wantDecoded(t, nil, nil)
	wantDecoded(t, []byte{}, nil)
	for to := range api.MaxNodes {
		for tag := range api.MaxActs {
			for _, val := range vals() {
				l := []api.Message{message(to, tag, val), message(0, 5, val), message(to, tag, -val)}
				b, _ := Encode(l)
				wantDecoded(t, b, l)
			}
		}
	}
	for n := range 70 {
		b, e := Encode(numbered(n))
		if e != api.OK {
			t.Fatal(e)
		}
		wantDecoded(t, b, numbered(n))
	}
}

func TestP21_5DecodeOfBytesThatAreMissing(t *testing.T) {
	b, _ := Encode(numbered(4))
	for end := range b {
		if end%10 == 0 {
			wantDecoded(t, b[:end], numbered(end/10))
		} else {
			wantWrong(t, b[:end], end)
		}
	}
}

func TestP21_5DecodeTellsTheFirstWrongByte(t *testing.T) {
	whole := []byte{11, 5, 0, 0, 0, 0, 0, 0, 0, 0}
	for _, c := range []struct {
		b    []byte
		want int
	}{
		{[]byte{12}, 0}, {[]byte{255}, 0}, {[]byte{12, 6}, 0}, {[]byte{11}, 1}, {[]byte{0}, 1},
		{[]byte{11, 6}, 1}, {[]byte{0, 255}, 1}, {[]byte{11, 5}, 2}, {[]byte{11, 5, 255}, 3},
		{slices.Concat(whole, []byte{12}), 10}, {slices.Concat(whole, []byte{11, 6}), 11}, {slices.Concat(whole, []byte{3}), 11},
		{slices.Concat(whole, []byte{12}, whole[1:]), 10},
		{slices.Concat(whole, []byte{0, 6}, whole[2:]), 11},
		{slices.Concat(whole, []byte{0, 6}, whole[2:], []byte{99, 99}), 11},
		{slices.Concat([]byte{12}, whole[1:], []byte{0, 6}, whole[2:]), 0},
		{slices.Concat([]byte{11, 6}, whole[2:], []byte{12}), 1},
		{slices.Concat(whole, whole, whole[:9]), 29},
		{slices.Concat(whole, whole, whole, []byte{200}), 30},
	} {
		wantWrong(t, c.b, c.want)
	}
}

// firstWrong is the place of the first byte that is wrong, byte by byte; -1, if there is none.
func firstWrong(b []byte) int {
	for i, v := range b {
		if i%10 == 0 && v > 11 || i%10 == 1 && v > 5 {
			return i
		}
	}
	if len(b)%10 != 0 {
		return len(b)
	}
	return -1
}

// Whatever single byte is another one: it is wrong there, or Encode tells it again.
func TestP21_5DecodeTakesNothingElse(t *testing.T) {
	full, _ := Encode(numbered(3))
	for _, b := range [][]byte{full, full[:25], full[:21], full[:22]} {
		for i := range b {
			for v := range 256 {
				other := slices.Clone(b)
				other[i] = byte(v)
				if want := firstWrong(other); want >= 0 {
					wantWrong(t, other, want)
					continue
				}
				l, _, _ := Decode(other)
				if again, e := Encode(l); e != api.OK || !slices.Equal(again, other) {
					t.Fatalf("%v: %v, %d", other, again, e)
				}
			}
		}
	}
	proof.Rows(3, []byte{0, 5, 6, 11, 12, 255}, func(b []byte) {
		if want := firstWrong(b); want >= 0 {
			wantWrong(t, b, want)
		} else {
			wantDecoded(t, b, nil)
		}
	})
}
