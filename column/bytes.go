package column

import (
	"bytes"

	"reticule/api"
	"reticule/num"
)

const (
	headBytes = 3 // a column's side, kind, and how long its name is
	wordBytes = 8
)

// Encode are how many columns t has, and each one's side, kind, name and values.
func Encode(t *Table) ([]byte, api.Errno) {
	if t == nil {
		return nil, api.ErrNil
	}
	keys := t.Keys()
	b := []byte{byte(len(keys))}
	for _, k := range keys {
		b = append(b, byte(k.Side), byte(t.KindOf(k)), byte(len(k.Name)))
		b = append(b, k.Name...)
		for _, w := range t.List(k) {
			word := num.Bytes(w)
			b = append(b, word[:]...)
		}
	}
	return b, api.OK
}

// Decode are the columns of so many nodes and edges whose Encode b is.
func Decode(nodes, edges int, b []byte) (*Table, api.Errno) {
	t := New(nodes, edges)
	if t == nil || len(b) == 0 {
		return nil, api.ErrForm
	}
	rest := b[1:]
	for range b[0] {
		behind, right := t.read(rest)
		if !right {
			return nil, api.ErrForm
		}
		rest = behind
	}
	// What is left to be wrong, an order of columns that is not Keys' or bytes behind the end, Encode never tells.
	if again, e := Encode(t); e != api.OK || !bytes.Equal(again, b) {
		return nil, api.ErrForm
	}
	return t, api.OK
}

// read takes in the column with which b begins, and is what stands behind it; false, if there is none.
func (t *Table) read(b []byte) ([]byte, bool) {
	if len(b) < headBytes || len(b) < headBytes+int(b[2]) {
		return nil, false
	}
	end := headBytes + int(b[2])
	k, kind := api.Key{Name: string(b[headBytes:end]), Side: api.Side(b[0])}, api.Kind(b[1])
	if t.Declare(k, kind) != api.OK {
		return nil, false
	}
	values, rest, right := readWords(t.Len(k.Side), b[end:])
	if !right || t.Load(k, values) != api.OK {
		return nil, false
	}
	return rest, true
}

// readWords are the n numbers with which b begins, and what stands behind them; false, if there are fewer.
func readWords(n int, b []byte) ([]api.Word, []byte, bool) {
	if len(b) < n*wordBytes {
		return nil, nil, false
	}
	words := make([]api.Word, n)
	for i := range words {
		words[i] = num.Join([wordBytes]byte(b[i*wordBytes:]))
	}
	return words, b[n*wordBytes:], true
}
