package engine_test

import (
	"fmt"
	"slices"
	"testing"

	"reticule/api"
	"reticule/column"
	"reticule/engine"
	"reticule/graph"
	"reticule/plain"
	"reticule/proof"
)

// given is what New and Load are handed, with things in the spare room of all lists.
type given struct {
	code   api.Code
	edges  []api.Edge
	table  *column.Table
	script api.Script
	bytes  []byte
}

// handed is what is handed of a machine that stands at its beginning.
func handed(m *machine) given {
	return given{
		code: proof.Code(m.code), edges: proof.Roomy(m.world.Edges, api.Edge{From: 1}), table: m.world.Table(),
		script: api.Script{Workers: m.script.Workers, By: proof.Roomy(m.script.By, 77), Seeds: proof.Roomy(m.script.Seeds, 77)},
		bytes:  proof.Roomy(m.bytes(), 77),
	}
}

// tell is all of what is handed.
func (h given) tell() string {
	s := h.script
	return proof.WholeCode(h.code) + fmt.Sprint(h.edges[:cap(h.edges)], s.Workers, s.By[:cap(s.By)], s.Seeds[:cap(s.Seeds)], h.bytes[:cap(h.bytes)]) + plain.Tell(h.table)
}

// spoil changes all of it.
func (h given) spoil() {
	proof.SpoilCode(h.code)
	proof.Spoil(h.edges, api.Edge{})
	proof.Spoil(h.script.By, 0)
	proof.Spoil(h.script.Seeds, 7)
	proof.Spoil(h.bytes, 9)
	for _, k := range h.table.Keys() {
		h.table.Fill(k, 1)
	}
}

// New and Load change nothing of what they are handed, and keep nothing of it.
func TestP3WhatIsHandedInStays(t *testing.T) {
	t.Parallel()
	for _, text := range texts() {
		c := compiled(t, text)
		m := &machine{code: c, world: plain.Of(4, "01", "12", "30", "33").Fill(c.Program.Decls, 5), script: api.Script{Workers: 2, By: []int{1, 0, 1}, Seeds: []uint64{1, 3, 4}}}
		h := handed(m)
		was := h.tell()
		g := graph.New(m.world.Nodes, h.edges)
		first, second := engine.New(h.code, g, h.table, h.script), engine.New(h.code, g, h.table, h.script)
		third, wrong := engine.Load(h.code, g, h.script, h.bytes)
		if wrong != api.OK {
			t.Fatal(wrong)
		}
		first.Run(20)
		first.Save()
		if h.tell() != was {
			t.Errorf("%s: what was handed in changed", text)
		}
		h.spoil()
		other := *m
		steps(t, second, m, 20)
		steps(t, third, &other, 20)
	}
}

// What is answered is the caller's.
func TestP3WhatIsAnsweredIsTheCallers(t *testing.T) {
	for _, m := range moments(t) {
		e, anew := both(t, m.code, firstWorld(m), m.script)
		steps(t, e, anew, m.steps)
		inbox, trace := e.Inbox(), e.Trace()
		b, _ := e.Save()
		again, _ := e.Save()
		if !proof.Apart(inbox, e.Inbox(), trace, e.Trace(), b, again) {
			t.Error("lists have memory in common")
		}
		proof.Spoil(inbox, api.Message{To: 99})
		proof.Spoil(trace, api.Mark{At: 99})
		proof.Spoil(b, 99)
		table := e.Table()
		for _, k := range table.Keys() {
			table.Fill(k, 1)
		}
		table.Declare(api.Key{Name: "zz", Side: api.OfEdge}, api.Bool)
		want(t, e, anew)
		steps(t, e, anew, 20)
	}
}

// firstWorld is the world at whose beginning a machine of moments was.
func firstWorld(m *machine) plain.World {
	if m.world.Nodes == 2 {
		return pair()
	}
	return star()
}

// What becomes of an engine or its fork changes nothing of the other one, whichever goes on.
func TestP4Fork(t *testing.T) {
	t.Parallel()
	for at, text := range texts() {
		c := compiled(t, text)
		w := plain.Of(4, "01", "12", "30", "33", "31").Fill(c.Program.Decls, uint64(at))
		s := scripts()[at%len(scripts())]
		for ahead := range 7 {
			e, m := both(t, c, w, s)
			steps(t, e, m, ahead)
			fork, other := e.Fork(), *m
			other.trace = slices.Clone(m.trace)
			want(t, fork, &other)
			steps(t, e, m, 9)
			want(t, fork, &other)
			second, third := fork.Fork(), other
			third.trace = slices.Clone(other.trace)
			steps(t, fork, &other, 15)
			want(t, second, &third)
			want(t, e, m)
			steps(t, second, &third, 4)
			want(t, fork, &other)
		}
	}
}

// One step each in turn: what one appends to its trace the other one does not have.
func TestP4ForksInTurn(t *testing.T) {
	c := coded(t, several, "unless 2 3; send 3; take 3; set 0; jump 0")
	e, m := both(t, c, star(), api.Script{Workers: 2, By: []int{0, 1, 1}, Seeds: []uint64{1, 0}})
	steps(t, e, m, 3)
	forks, models := []*engine.Engine{e}, []*machine{m}
	for range 5 {
		one := *models[0]
		one.trace = slices.Clone(one.trace)
		forks, models = append(forks, forks[0].Fork()), append(models, &one)
		for i := range forks {
			for range i % 3 {
				forks[i].Step()
				models[i].step()
			}
		}
		for i := range forks {
			want(t, forks[i], models[i])
		}
	}
}

// E1 and P6: the same calls come to the same, however often, whatever comes between.
func TestP6NothingIsKeptBetweenCalls(t *testing.T) {
	c := compiled(t, texts()[len(texts())-2])
	w := plain.Of(4, "01", "12", "30", "33").Fill(c.Program.Decls, 5)
	s := scripts()[5]
	first := engine.New(c, w.Graph(), w.Table(), s)
	first.Run(50)
	for range 10 {
		engine.New(compiled(t, short), pair().Graph(), pair().Table(), scripts()[1]).Run(9)
		e := engine.New(c, w.Graph(), w.Table(), s)
		e.Run(50)
		if tell(e) != tell(first) {
			t.Error(tell(e), tell(first))
		}
	}
}
