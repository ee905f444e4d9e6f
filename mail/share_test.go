package mail

import (
	"slices"
	"testing"

	"reticule/api"
	"reticule/proof"
)

// lists are all calls that answer messages.
func lists() map[string]func([]api.Message) []api.Message {
	return map[string]func([]api.Message) []api.Message{
		"Sorted":      Sorted,
		"Turned by 0": func(l []api.Message) []api.Message { return Turned(l, 0) },
		"Turned by 5": func(l []api.Message) []api.Message { return Turned(l, 5) },
		"For":         func(l []api.Message) []api.Message { return For(l, 0) },
		"Combined":    func(l []api.Message) []api.Message { m, _ := Combined(l, reducing()); return m },
		"Decode":      func(l []api.Message) []api.Message { b, _ := Encode(l); m, _, _ := Decode(b); return m },
	}
}

// some are lists of several lengths, in order and not, with messages to one node alone, too.
func some() [][]api.Message {
	return [][]api.Message{nil, {}, {message(0, 0, 1)}, {message(0, 1, 1), message(0, 1, 1)}, dealt(17), insorted(dealt(40)), For(dealt(50), 0)}
}

func TestP3WhatIsHandedInStays(t *testing.T) {
	for name, call := range lists() {
		for _, from := range some() {
			l := proof.Roomy(from, message(77, 77, 77))
			whole := slices.Clone(l[:cap(l)])
			first, second := call(l), call(l)
			want := slices.Clone(second)
			if !proof.Apart(l, first, second) {
				t.Errorf("%s: lists have memory in common", name)
			}
			proof.Spoil(first, message(99, 99, 99))
			if !slices.Equal(l[:cap(l)], whole) || !slices.Equal(second, want) || !slices.Equal(call(l), want) {
				t.Errorf("%s: what was answered changes something", name)
			}
			proof.Spoil(l, message(99, 99, 99))
			if !slices.Equal(second, want) {
				t.Errorf("%s: what was answered changed", name)
			}
		}
	}
}

func TestP3OperationsAndNumbersStay(t *testing.T) {
	ops := proof.Roomy(reducing(), api.Sub)
	l := proof.Roomy(dealt(20), message(77, 77, 77))
	wholeOps, whole := slices.Clone(ops[:cap(ops)]), slices.Clone(l[:cap(l)])
	if _, e := Combined(l, ops); e != api.OK {
		t.Error(e)
	}
	if _, e := Taken(3, api.Add, 1, l); e != api.OK {
		t.Error(e)
	}
	if !slices.Equal(ops[:cap(ops)], wholeOps) || !slices.Equal(l[:cap(l)], whole) {
		t.Error(ops, l)
	}
}

func TestP3BytesStay(t *testing.T) {
	l := proof.Roomy(dealt(20), message(77, 77, 77))
	whole := slices.Clone(l[:cap(l)])
	first, _ := Encode(l)
	second, _ := Encode(l)
	want := slices.Clone(second)
	proof.Spoil(first, 99)
	if !slices.Equal(second, want) || !slices.Equal(l[:cap(l)], whole) {
		t.Error(second, l)
	}
	b := proof.Roomy(want, 77)
	bytes := slices.Clone(b[:cap(b)])
	m, _, _ := Decode(b)
	proof.Spoil(m, message(99, 99, 99))
	m, _, _ = Decode(b)
	if !slices.Equal(b[:cap(b)], bytes) {
		t.Error(b)
	}
	proof.Spoil(b, 99)
	wantList(t, "Decode", m, l)
}

// E1 and P6: the same calls come to the same, however often, in whatever order a map is gone through.
func TestP6NothingIsKeptBetweenCalls(t *testing.T) {
	for name, call := range lists() {
		for _, l := range some() {
			want := call(l)
			for range 20 {
				Combined(dealt(33), reducing())
				Turned(dealt(9), 3)
				wantList(t, name, call(l), want)
			}
		}
	}
}
