package num

import (
	"math"
	"math/big"
	"strings"
	"testing"

	"reticule/api"
)

// The calls have the signatures that the chapter lists.
var (
	_ [7]func(a, b api.Word) api.Word                 = [7]func(a, b api.Word) api.Word{Add, Sub, Mul, Div, Mod, Shl, Shr}
	_ func(bits, a api.Word) api.Word                 = Narrow
	_ func(api.Op, ...api.Word) (api.Word, api.Errno) = Do
	_ func(api.Op) int                                = Arity
	_ func(api.Op) (api.Word, bool)                   = Reduces
	_ func(api.Word) bool                             = Truth
	_ func(api.Word) string                           = Digits
	_ func(string) (api.Word, api.Errno)              = Parse
	_ func(api.Word) [8]byte                          = Bytes
	_ func([8]byte) api.Word                          = Join
)

// some are numbers at and beside the edges.
func some() []api.Word {
	l := []api.Word{0, 1, 2, 3, 5, 7, 8, 10, 16, 31, 32, 33, 63, 64, 65, 100, 127, 128, 200, 255, 256, 258,
		32767, 32768, 65535, 65536, 1<<31 - 1, 1 << 31, 1<<32 - 1, 1 << 32, 3037000500, 0x0123456789abcdef,
		math.MaxInt64 - 1, math.MaxInt64, math.MinInt64, math.MinInt64 + 1}
	for _, a := range l {
		l = append(l, -a)
	}
	return l
}

func wide(a api.Word) *big.Int { return big.NewInt(int64(a)) }

// round is v modulo 2^64 as a number with a sign.
func round(v *big.Int) api.Word {
	turn := new(big.Int).Lsh(big.NewInt(1), 64)
	return api.Word(new(big.Int).Mod(v, turn).Uint64())
}

func TestP1_1AddSubMulGoRound(t *testing.T) {
	for _, a := range some() {
		for _, b := range some() {
			if got, want := Add(a, b), round(new(big.Int).Add(wide(a), wide(b))); got != want {
				t.Errorf("Add(%d, %d) is %d, not %d", a, b, got, want)
			}
			if got, want := Sub(a, b), round(new(big.Int).Sub(wide(a), wide(b))); got != want {
				t.Errorf("Sub(%d, %d) is %d, not %d", a, b, got, want)
			}
			if got, want := Mul(a, b), round(new(big.Int).Mul(wide(a), wide(b))); got != want {
				t.Errorf("Mul(%d, %d) is %d, not %d", a, b, got, want)
			}
		}
	}
}

func TestP1_1DivModTowardNought(t *testing.T) {
	for _, a := range some() {
		for _, b := range some() {
			var div, mod api.Word
			if b != 0 {
				q, r := new(big.Int).QuoRem(wide(a), wide(b), new(big.Int))
				div, mod = round(q), round(r)
			}
			if Div(a, b) != div || Mod(a, b) != mod {
				t.Errorf("Div and Mod(%d, %d) are %d and %d, not %d and %d", a, b, Div(a, b), Mod(a, b), div, mod)
			}
		}
	}
	for _, x := range [][4]api.Word{
		{math.MinInt64, -1, math.MinInt64, 0}, {-7, 2, -3, -1}, {7, -2, -3, 1}, {-7, -2, 3, -1}, {7, 0, 0, 0}, {0, 0, 0, 0}, {math.MinInt64, 0, 0, 0},
	} {
		if Div(x[0], x[1]) != x[2] || Mod(x[0], x[1]) != x[3] {
			t.Errorf("%d by %d: %d and %d", x[0], x[1], Div(x[0], x[1]), Mod(x[0], x[1]))
		}
	}
}

func TestP1_1Shifts(t *testing.T) {
	for _, a := range some() {
		for _, n := range some() {
			by := uint(((n % 64) + 64) % 64)
			if got, want := Shl(a, n), round(new(big.Int).Lsh(wide(a), by)); got != want {
				t.Errorf("Shl(%d, %d) is %d, not %d", a, n, got, want)
			}
			if got, want := Shr(a, n), round(new(big.Int).Rsh(wide(a), by)); got != want {
				t.Errorf("Shr(%d, %d) is %d, not %d", a, n, got, want)
			}
		}
	}
	if Shl(1, 64) != 1 || Shl(1, 63) != math.MinInt64 || Shl(1, -1) != math.MinInt64 || Shl(5, 65) != 10 || Shl(3, -64) != 3 {
		t.Error("Shl")
	}
	if Shr(-8, 1) != -4 || Shr(-1, 63) != -1 || Shr(math.MinInt64, -1) != -1 || Shr(8, 64) != 8 || Shr(8, 66) != 2 || Shr(-1, 64) != -1 {
		t.Error("Shr")
	}
}

func TestP1_1Narrow(t *testing.T) {
	for _, a := range some() {
		for i := range 140 {
			bits := api.Word(i - 70)
			want := a
			switch bits {
			case 8:
				want = api.Word(int8(a))
			case 16:
				want = api.Word(int16(a))
			case 32:
				want = api.Word(int32(a))
			}
			if got := Narrow(bits, a); got != want {
				t.Errorf("Narrow(%d, %d) is %d, not %d", bits, a, got, want)
			}
		}
	}
	if Narrow(8, 200) != -56 || Narrow(8, 127) != 127 || Narrow(16, 1<<15) != -1<<15 || Narrow(32, 1<<31) != -1<<31 || Narrow(64, 200) != 200 || Narrow(0, -9) != -9 || Narrow(-8, 200) != 200 ||
		Narrow(math.MinInt64, 200) != 200 || Narrow(math.MaxInt64, 200) != 200 || Narrow(1<<32+8, 200) != 200 {
		t.Error("Narrow")
	}
}

func TestP1_3Digits(t *testing.T) {
	for _, a := range some() {
		if got, want := Digits(a), wide(a).String(); got != want {
			t.Errorf("Digits(%d) is %q", a, got)
		}
		if got, e := Parse(Digits(a)); got != a || e != api.OK {
			t.Errorf("Parse(Digits(%d)) is %d, %d", a, got, e)
		}
	}
	if Digits(0) != "0" || Digits(-1<<63) != "-9223372036854775808" || Digits(1<<63-1) != "9223372036854775807" {
		t.Error("Digits")
	}
}

func TestP1_3ParseRefusesWhatIsNoDigits(t *testing.T) {
	for _, s := range []string{
		"", "-", "+", "--1", "-0", "+0", "+1", "00", "07", "-07", " 1", "1 ", "1\n", "\x00", "1\x00", "1a", "a", "0x1", "1_0", "1.0", "1e3", "1-", "- 1",
		"9223372036854775808", "-9223372036854775809", "18446744073709551616", "99999999999999999999999999",
		"\xff", "\u0661", "\uff11", "\u22121", strings.Repeat("0", 1000), strings.Repeat("9", 100000), "-" + strings.Repeat("0", 100000),
	} {
		if a, e := Parse(s); a != 0 || e != api.ErrForm {
			t.Errorf("Parse(%.40q) is %d, %d", s, a, e)
		}
	}
	for s, want := range map[string]api.Word{"0": 0, "10": 10, "-1": -1, "9223372036854775807": math.MaxInt64, "-9223372036854775808": math.MinInt64} {
		if a, e := Parse(s); a != want || e != api.OK {
			t.Errorf("Parse(%q) is %d, %d", s, a, e)
		}
	}
}

func TestP1_3Bytes(t *testing.T) {
	for a, want := range map[api.Word][8]byte{
		0:                  {},
		258:                {6: 1, 7: 2},
		0x0123456789abcdef: {0x01, 0x23, 0x45, 0x67, 0x89, 0xab, 0xcd, 0xef},
		-2:                 {255, 255, 255, 255, 255, 255, 255, 254},
		math.MinInt64:      {0: 128},
		math.MaxInt64:      {127, 255, 255, 255, 255, 255, 255, 255},
	} {
		if Bytes(a) != want || Join(want) != a {
			t.Errorf("%d: Bytes %v, Join %d", a, Bytes(a), Join(want))
		}
	}
	for _, a := range some() {
		if Join(Bytes(a)) != a {
			t.Errorf("Join(Bytes(%d)) is %d", a, Join(Bytes(a)))
		}
	}
}

func TestP1_4SubTakesAddBack(t *testing.T) {
	for _, a := range some() {
		for _, b := range some() {
			if Sub(Add(a, b), b) != a || Add(Sub(a, b), b) != a {
				t.Errorf("%d and %d", a, b)
			}
		}
	}
}

func TestP1_6DivTimesAndModIsAll(t *testing.T) {
	for _, a := range some() {
		for _, b := range some() {
			if b != 0 && Add(Mul(Div(a, b), b), Mod(a, b)) != a {
				t.Errorf("%d by %d", a, b)
			}
		}
	}
}
