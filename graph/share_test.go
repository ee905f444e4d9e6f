package graph

import (
	"slices"
	"testing"

	"reticule/api"
	"reticule/proof"
)

// numbers are all lists of numbers that the graph answers.
func numbers(g *Graph) [][]int {
	rows, places := g.Rows()
	out := [][]int{rows, places, g.Joined()}
	for v := range g.N() {
		out = append(out, g.Out(v), g.In(v), g.Levels(v))
		for w := range g.N() {
			out = append(out, g.Between(v, w))
		}
	}
	return out
}

func sameRows[T comparable](a, b [][]T) bool {
	return slices.EqualFunc(a, b, func(x, y []T) bool { return slices.Equal(x, y) })
}

func some() []api.Edge {
	return []api.Edge{edge(0, 1), edge(0, 1), edge(1, 2), edge(2, 0), edge(3, 3), edge(0, 1)}
}

func TestP3WhatIsHandedInStays(t *testing.T) {
	l := proof.Roomy(some(), edge(7, 7))
	want := slices.Clone(l[:cap(l)])
	b, _ := Encode(4, l)
	bytes := proof.Roomy(b, 9)
	wantBytes := slices.Clone(bytes[:cap(bytes)])
	g := New(4, l)
	proof.Spoil(Distinct(l), edge(8, 8))
	_, k, _, _ := Decode(bytes)
	proof.Spoil(k, edge(8, 8))
	for _, a := range numbers(g) {
		proof.Spoil(a, 77)
	}
	Check(4, l)
	if !slices.Equal(l[:cap(l)], want) || !slices.Equal(bytes[:cap(bytes)], wantBytes) {
		t.Error(l[:cap(l)], bytes[:cap(bytes)])
	}
}

func TestP3WhatIsKeptIsTheGraphs(t *testing.T) {
	l := some()
	g := New(4, l)
	twin := New(4, some())
	want, wantReaches := numbers(twin), twin.Reaches()
	proof.Spoil(l, edge(9, 9))
	for _, a := range numbers(g) {
		proof.Spoil(a, 77)
	}
	for _, a := range g.Reaches() {
		proof.Spoil(a, true)
	}
	proof.Spoil(g.Turned().edges, edge(9, 9))
	if e, _ := g.Edge(3); e != edge(2, 0) || !sameRows(numbers(g), want) || !sameRows(g.Reaches(), wantReaches) {
		t.Error(e, numbers(g), g.Reaches())
	}
}

func TestP3NoTwoListsShare(t *testing.T) {
	g := New(4, some())
	for spoilt := range numbers(g) {
		all, want := numbers(g), numbers(New(4, some()))
		proof.Spoil(all[spoilt], 77)
		for i := range all {
			if i != spoilt && !slices.Equal(all[i], want[i]) {
				t.Errorf("the lists %d and %d share memory", spoilt, i)
			}
		}
	}
	for spoilt := range g.N() {
		all, want := g.Reaches(), g.Reaches()
		proof.Spoil(all[spoilt], !want[spoilt][0])
		for i := range all {
			if i != spoilt && !slices.Equal(all[i], want[i]) {
				t.Errorf("the rows %d and %d share memory", spoilt, i)
			}
		}
	}
}

// E1 and P6: graphs made alike answer alike, however often, and whatever others are made.
func TestP6NothingIsKeptBetweenGraphs(t *testing.T) {
	want := numbers(New(4, some()))
	for range 20 {
		New(4, []api.Edge{edge(3, 0), edge(3, 1)})
		if got := numbers(New(4, some())); !sameRows(got, want) {
			t.Fatalf("%v, not %v", got, want)
		}
	}
}
