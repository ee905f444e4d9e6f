// Package num is numbers that go round. See ../../shared/doc/01-num.md.
package num

import (
	"strconv"

	"reticule/api"
)

const (
	wordBits  = 64
	shiftMask = wordBits - 1 // a shift counts by its lowest 6 bits
	least     = api.Word(-1 << (wordBits - 1))
	greatest  = api.Word(1<<(wordBits-1) - 1)
)

// Add is a and b together, going round.
func Add(a, b api.Word) api.Word { return a + b }

// Sub is a less b, going round.
func Sub(a, b api.Word) api.Word { return a - b }

// Mul is a times b, going round.
func Mul(a, b api.Word) api.Word { return a * b }

// Div is a by b toward 0, going round; of b 0 it is 0.
func Div(a, b api.Word) api.Word {
	if b == 0 {
		return 0
	}
	return a / b
}

// Mod is what Div leaves over of a; of b 0 it is 0.
func Mod(a, b api.Word) api.Word {
	if b == 0 {
		return 0
	}
	return a % b
}

// Shl moves the bits of a up by the lowest 6 bits of n.
func Shl(a, n api.Word) api.Word {
	for range n & shiftMask {
		a <<= 1
	}
	return a
}

// Shr moves the bits of a down by the lowest 6 bits of n, and fills up with the sign.
func Shr(a, n api.Word) api.Word {
	for range n & shiftMask {
		a >>= 1
	}
	return a
}

// Narrow is the lowest 8, 16 or 32 bits of a as a number with a sign; with other bits it is a.
func Narrow(bits, a api.Word) api.Word {
	switch bits {
	case 8, 16, 32:
		spare := wordBits - bits
		return Shr(Shl(a, spare), spare) // on the way back the highest bit kept becomes the sign
	}
	return a
}

// Truth tells whether a counts as true.
func Truth(a api.Word) bool { return a != 0 }

// Digits is a in digits, with - ahead below 0.
func Digits(a api.Word) string { return strconv.FormatInt(int64(a), 10) }

// Parse is the number whose Digits s is.
func Parse(s string) (api.Word, api.Errno) {
	v, err := strconv.ParseInt(s, 10, wordBits)
	// ParseInt also takes a plus, -0 and noughts ahead, which Digits never tells.
	if a := api.Word(v); err == nil && Digits(a) == s {
		return a, api.OK
	}
	return 0, api.ErrForm
}

// Bytes are the bytes of a, the highest first.
func Bytes(a api.Word) [8]byte {
	var b [8]byte
	for i := range len(b) {
		b[len(b)-1-i] = byte(a)
		a >>= 8
	}
	return b
}

// Join is the number whose Bytes b is.
func Join(b [8]byte) api.Word {
	var a api.Word
	for i := range len(b) {
		a = a<<8 | api.Word(b[i])
	}
	return a
}
