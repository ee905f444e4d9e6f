package perm

import (
	"slices"
	"testing"

	"reticule/api"
	"reticule/proof"
)

// answers are all lists that the calls answer of p, l and cuts.
func answers(p, l []int, cuts uint64) [][]int {
	var out [][]int
	k, _ := Number(p)
	from, _ := From(len(p), k)
	turned, _ := Turn(p, l)
	back, _ := Back(p)
	then, _ := Then(p, p)
	out = append(out, from, turned, back, then)
	return append(out, Groups(l, cuts)...)
}

func TestP3WhatIsHandedInStays(t *testing.T) {
	for _, p := range [][]int{nil, {0}, {2, 0, 1}, {1, 0, 3, 2}, {0, 0}, countDown(api.MaxPerm), count(api.MaxPerm + 1)} {
		q, l := proof.Roomy(p, 71), proof.Roomy(countDown(len(p)), 71)
		wantQ, wantL := slices.Clone(q[:cap(q)]), slices.Clone(l[:cap(l)])
		for _, a := range answers(q, l, 2) {
			proof.Spoil(a, -77)
		}
		if !slices.Equal(q[:cap(q)], wantQ) || !slices.Equal(l[:cap(l)], wantL) {
			t.Errorf("%v: %v, %v", p, q[:cap(q)], l[:cap(l)])
		}
	}
}

func TestP3WhatIsAnsweredIsTheCallers(t *testing.T) {
	p, l := []int{3, 0, 2, 1}, []int{5, 6, 7, 8}
	const cuts = 4 // the last row is short enough to fit into spare room behind the first one
	for spoilt := range answers(p, l, cuts) {
		all, want := answers(p, l, cuts), answers(p, l, cuts)
		proof.Spoil(all[spoilt], -77)
		for i := range all {
			if i != spoilt && !slices.Equal(all[i], want[i]) {
				t.Errorf("the lists %d and %d share memory", spoilt, i)
			}
		}
	}
}

// E1 and P6: the same call has the same answer, whatever became of earlier answers.
func TestP6NothingIsKept(t *testing.T) {
	p, l := []int{3, 0, 2, 1}, []int{5, 6, 7, 8}
	want := answers(p, l, 5)
	for range 3 {
		for _, a := range answers(p, l, 5) {
			proof.Spoil(a, -77)
		}
		if got := answers(p, l, 5); !sameRows(got, want) {
			t.Fatalf("%v, not %v", got, want)
		}
	}
}
