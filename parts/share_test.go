package parts

import (
	"slices"
	"testing"

	"reticule/api"
	"reticule/proof"
)

// lists are all lists that p answers.
func lists(p *Parts) [][]int {
	var out [][]int
	for w := range p.Workers() {
		out = append(out, p.Members(w))
		for k := range uint64(7) {
			out = append(out, p.Order(w, k))
		}
	}
	return out
}

func sameRows(a, b [][]int) bool {
	return slices.EqualFunc(a, b, func(x, y []int) bool { return slices.Equal(x, y) })
}

func some() []int { return []int{2, 0, 0, 1, -1, 0, 7, 5, 0} }

func TestP3WhatIsHandedInStays(t *testing.T) {
	by, l := proof.Roomy(some(), 77), proof.Roomy([]api.Edge{edge(0, 1), edge(2, 9), edge(3, 5)}, edge(7, 7))
	wantBy, wantL := slices.Clone(by[:cap(by)]), slices.Clone(l[:cap(l)])
	for _, nodes := range []int{1, 5, len(by), api.MaxNodes} {
		p := New(nodes, 3, by)
		p.Cut(l)
		for _, a := range lists(p) {
			proof.Spoil(a, 55)
		}
	}
	if !slices.Equal(by[:cap(by)], wantBy) || !slices.Equal(l[:cap(l)], wantL) {
		t.Error(by[:cap(by)], l[:cap(l)])
	}
}

func TestP3WhatIsKeptIsThePartsOwn(t *testing.T) {
	by := some()
	p := New(10, 3, by)
	want := lists(New(10, 3, some()))
	proof.Spoil(by, 1)
	for _, a := range lists(p) {
		proof.Spoil(a, 55)
	}
	if got := lists(p); !sameRows(got, want) {
		t.Errorf("%v, not %v", got, want)
	}
	if p.Of(0) != 2 || p.Of(9) != 0 {
		t.Error(p.Of(0), p.Of(9))
	}
}

func TestP3NoTwoListsShare(t *testing.T) {
	p := New(10, 3, some())
	for spoilt := range lists(p) {
		all, want := lists(p), lists(New(10, 3, some()))
		proof.Spoil(all[spoilt], 55)
		for i := range all {
			if i != spoilt && !slices.Equal(all[i], want[i]) {
				t.Errorf("the lists %d and %d share memory", spoilt, i)
			}
		}
	}
	first := Spread(6, 2, 3)
	proof.Spoil(Spread(6, 2, 3), 55)
	if !slices.Equal(first, Spread(6, 2, 3)) {
		t.Error(first)
	}
}

// E1 and P6: parts made alike answer alike, however often, and whatever others are made.
func TestP6NothingIsKeptBetweenParts(t *testing.T) {
	want := lists(New(10, 3, some()))
	for range 20 {
		New(12, 4, []int{3, 3, 3})
		Spread(12, 4, 5)
		if got := lists(New(10, 3, some())); !sameRows(got, want) {
			t.Fatalf("%v, not %v", got, want)
		}
	}
}
