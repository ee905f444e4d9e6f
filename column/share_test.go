package column

import (
	"slices"
	"testing"

	"reticule/api"
	"reticule/proof"
)

func TestP3WhatIsHandedInStays(t *testing.T) {
	c := table(t)
	room := []api.Word{1, 2, 3, 70, 71}
	want(t, api.OK, c.Load(ofNode("x"), room[:3]))
	proof.Spoil(c.List(ofNode("x")), 9)
	want(t, api.OK, c.Fill(ofNode("x"), 8))
	if !slices.Equal(room, []api.Word{1, 2, 3, 70, 71}) {
		t.Error(room)
	}
	b := encoded(t, c)
	bytes := append(slices.Clone(b), 7, 7)
	before := slices.Clone(bytes)
	d, _ := Decode(3, 2, bytes[:len(b)])
	want(t, api.OK, d.Fill(ofNode("x"), 5))
	proof.Spoil(encoded(t, d), 6)
	if !slices.Equal(bytes, before) {
		t.Error(bytes)
	}
}

func TestP3WhatIsKeptIsTheTables(t *testing.T) {
	c := table(t)
	l := []api.Word{1, 2, 3}
	want(t, api.OK, c.Load(ofNode("x"), l))
	before := c.Fork()
	b := encoded(t, c)
	d, _ := Decode(3, 2, b)
	proof.Spoil(l, 7)
	proof.Spoil(b, 7)
	for _, k := range c.Keys() {
		proof.Spoil(c.List(k), 7)
	}
	proof.Spoil(c.Keys(), api.Key{})
	if !c.Same(before) || !d.Same(before) {
		t.Error(c, d)
	}
}

// P6: a table is no other one's, and tables that are made alike tell alike.
func TestP6NothingIsKeptBetweenTables(t *testing.T) {
	first := encoded(t, full(t))
	for range 20 {
		c := full(t)
		if got := encoded(t, c); !slices.Equal(got, first) {
			t.Fatal(got)
		}
		for _, k := range c.Keys() {
			want(t, api.OK, c.Fill(k, 1))
		}
	}
	if len(New(1, 0).Keys()) != 0 {
		t.Error("a new table has columns")
	}
}
