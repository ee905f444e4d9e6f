package engine_test

import (
	"bytes"
	"fmt"
	"slices"
	"testing"

	"reticule/api"
	"reticule/column"
	"reticule/engine"
	"reticule/graph"
	"reticule/plain"
)

// short is the text of a program with few columns: its code is send 0; take 0; set 1; stop.
const short = "(int i) (nbool c) (each (push c or out true) (push c or in true (own c))) (set i 7)"

// pair is two nodes, with an edge from the one to the other, and the columns of short.
func pair() plain.World {
	return plain.Of(2, "01").With("i", api.Scalar, api.Int, -2).With("c", api.OfNode, api.Bool, 0, 1)
}

// The bytes of short's columns: i, of the program and Int, and c, of the nodes and Bool.
func columnsOfShort(i api.Word, c0, c1 byte) []byte {
	return slices.Concat([]byte{2, 1, 1, 1, 'i'}, wordBytes(i), []byte{2, 2, 1, 'c'}, wordBytes(api.Word(c0)), wordBytes(api.Word(c1)))
}

func TestP24_7SaveOfEachMoment(t *testing.T) {
	e, m := both(t, compiled(t, short), pair(), api.Script{Workers: 2, By: []int{0, 1}, Seeds: []uint64{1}})
	to1 := slices.Concat([]byte{1, 0}, wordBytes(1))
	to0 := slices.Concat([]byte{0, 1}, wordBytes(1))
	for at, want := range [][]byte{
		slices.Concat([]byte{0, 0, 0, 0, 0, 0, 0, 0, 0, 0, 0, 0, 0, 0, 0, 0, 0, 0, 0, 0, 0}, columnsOfShort(-2, 0, 1)),
		// By 1 the worker 1 sends first, and then all is turned: what is to the node 1 stands first.
		slices.Concat([]byte{0, 0, 0, 1, 0, 0, 0, 1, 0, 0, 0, 2, 0, 0, 0, 2, 0, 0, 0, 2, 0}, to1, to0, columnsOfShort(-2, 0, 1)),
		slices.Concat([]byte{0, 0, 0, 2, 0, 0, 0, 2, 0, 0, 0, 2, 0, 0, 0, 2, 0, 0, 0, 0, 0}, columnsOfShort(-2, 1, 1)),
		slices.Concat([]byte{0, 0, 0, 3, 0, 0, 0, 3, 0, 0, 0, 2, 0, 0, 0, 2, 0, 0, 0, 0, 0}, columnsOfShort(7, 1, 1)),
		slices.Concat([]byte{0, 0, 0, 3, 0, 0, 0, 4, 0, 0, 0, 2, 0, 0, 0, 2, 0, 0, 0, 0, 1}, columnsOfShort(7, 1, 1)),
	} {
		if b, wrong := e.Save(); wrong != api.OK || !bytes.Equal(b, want) {
			t.Errorf("%d: %v, %d, not %v", at, b, wrong, want)
		}
		if !bytes.Equal(m.bytes(), want) {
			t.Errorf("%d: the model has %v", at, m.bytes())
		}
		wantLoaded(t, m)
		if !m.halted {
			m.step()
			e.Step()
		}
	}
}

// loaded is the engine of what a machine's bytes tell.
func loaded(t *testing.T, m *machine) *engine.Engine {
	t.Helper()
	e, wrong := engine.Load(m.code, m.world.Graph(), m.script, m.bytes())
	if wrong != api.OK || e == nil {
		t.Fatalf("%s, %v, %v: %v, %d", printed(m.code), m.script, m.bytes(), e, wrong)
	}
	return e
}

// wantLoaded asks that Load is as far as a machine, but without a trace, and goes on as it does.
func wantLoaded(t *testing.T, m *machine) {
	t.Helper()
	other := *m
	other.trace = nil
	steps(t, loaded(t, m), &other, 6)
}

func wantNotLoaded(t *testing.T, what string, c api.Code, g *graph.Graph, s api.Script, b []byte) {
	t.Helper()
	if e, wrong := engine.Load(c, g, s, b); e != nil || wrong != api.ErrForm {
		t.Errorf("%s: %v, %d", what, e, wrong)
	}
}

// moments are machines of short and of several at each moment of theirs.
func moments(t *testing.T) []*machine {
	t.Helper()
	var all []*machine
	add := func(m *machine) {
		for range 7 {
			one := *m
			all = append(all, &one)
			if m.halted {
				return
			}
			m.step()
		}
	}
	add(&machine{code: compiled(t, short), world: pair(), script: api.Script{Workers: 1}})
	add(&machine{code: compiled(t, short), world: pair(), script: api.Script{Workers: 2, By: []int{0, 1}, Seeds: []uint64{1, 4}}})
	add(&machine{code: coded(t, several, "set 0; send 3; take 3; fold 1; stop; stop"), world: star(), script: api.Script{Workers: 3, By: []int{2, 0, 1}, Seeds: []uint64{2, 7}}})
	return all
}

func TestP24_7LoadOfEachMoment(t *testing.T) {
	for _, m := range moments(t) {
		wantLoaded(t, m)
	}
}

func TestP24_7LoadOfBytesThatAreCut(t *testing.T) {
	for _, m := range moments(t) {
		b := m.bytes()
		for end := range b {
			wantNotLoaded(t, fmt.Sprint("cut at ", end), m.code, m.world.Graph(), m.script, b[:end])
		}
		for _, more := range [][]byte{{0}, {1}, {255}, make([]byte, 10), b} {
			wantNotLoaded(t, "bytes behind", m.code, m.world.Graph(), m.script, slices.Concat(b, more))
			wantNotLoaded(t, "bytes ahead", m.code, m.world.Graph(), m.script, slices.Concat(more, b))
		}
		wantNotLoaded(t, "nothing", m.code, m.world.Graph(), m.script, nil)
	}
}

// number is that of four bytes.
func number(b []byte) int { return int(b[0])<<24 | int(b[1])<<16 | int(b[2])<<8 | int(b[3]) }

// mayLoad tells whether bytes are of the form of Save, for code that declares all its columns, over a world.
func mayLoad(m *machine, b []byte) bool {
	at, many, halted := number(b), number(b[16:]), b[20]
	end := 21 + 10*many
	if halted > 1 || end > len(b) || at >= len(m.code.List) || halted == 1 && m.code.List[at].Kind != api.Stop {
		return false
	}
	for from := 21; from < end; from += 10 {
		if b[from] >= api.MaxNodes || b[from+1] >= api.MaxActs {
			return false
		}
	}
	table, wrong := column.Decode(m.world.Nodes, len(m.world.Edges), b[end:])
	if wrong != api.OK {
		return false
	}
	for _, d := range m.code.Program.Decls {
		if table.KindOf(api.Key{Name: d.Name, Side: d.Side}) != d.Kind {
			return false
		}
	}
	return true
}

// One byte that is another one: it is refused, or Save tells it again, and the engine goes on.
func TestP24_7LoadOfOneByteChanged(t *testing.T) {
	t.Parallel()
	right, wrong := 0, 0
	for _, m := range moments(t) {
		g, b := m.world.Graph(), m.bytes()
		for i := range b {
			for _, v := range []byte{0, 1, 2, 3, 5, 6, 11, 12, 255, b[i] + 1, b[i] - 1, b[i] ^ 128} {
				other := slices.Clone(b)
				other[i] = v
				if !mayLoad(m, other) {
					wrong++
					wantNotLoaded(t, fmt.Sprint(i, " is ", v), m.code, g, m.script, other)
					continue
				}
				right++
				e, wrong := engine.Load(m.code, g, m.script, other)
				again, also := e.Save()
				if wrong != api.OK || also != api.OK || !bytes.Equal(again, other) || len(e.Trace()) != 0 {
					t.Errorf("%d is %d: %d, %v, %d", i, v, wrong, again, also)
				}
				e.Run(5)
			}
		}
	}
	if right < 1000 || wrong < 1000 {
		t.Error("too few:", right, wrong)
	}
}

func TestP24_7LoadWhereItMayNotStand(t *testing.T) {
	m := &machine{code: coded(t, several, "set 0; send 3; take 3; stop; jump 5; stop"), world: star(), script: api.Script{Workers: 1}}
	for at := range 10 {
		for _, halted := range []bool{false, true} {
			m.at, m.halted, m.steps, m.sent, m.most = at, halted, 3, 8, 5
			if at >= 6 || halted && at != 3 && at != 5 {
				wantNotLoaded(t, fmt.Sprint("at ", at, halted), m.code, m.world.Graph(), m.script, m.bytes())
				continue
			}
			wantLoaded(t, m)
		}
	}
	m.halted = false
	for _, at := range []int{255, 256, 1 << 16, 1 << 24, 1<<31 - 1, 1 << 31, 1<<32 - 1} {
		m.at = at
		wantNotLoaded(t, fmt.Sprint("at ", at), m.code, m.world.Graph(), m.script, m.bytes())
	}
	// Whether it is halted is 1 or 0.
	m.at = 3
	for halted := range 256 {
		b := m.bytes()
		b[20] = byte(halted)
		if e, wrong := engine.Load(m.code, m.world.Graph(), m.script, b); (wrong == api.OK) != (halted < 2) || e.Halted() != (halted == 1) {
			t.Error(halted, e, wrong)
		}
	}
}

// Messages that may be encoded may be in an inbox, wherever the engine stands: those that are nobody's are lost.
func TestP24_7LoadOfAnyInbox(t *testing.T) {
	c := coded(t, several, "set 0; send 3; take 3; stop")
	var full []api.Message
	for to := range api.MaxNodes {
		for tag := range api.MaxActs {
			full = append(full, api.Message{To: to, Tag: tag, Val: api.Word(to*10 - tag*1000)})
		}
	}
	for _, inbox := range [][]api.Message{{{To: 1, Val: 5}, {To: 0, Val: 3}}, {{To: 11, Tag: 5, Val: -1}}, full, slices.Repeat(full, 4)} {
		for at := range c.List {
			m := &machine{code: c, world: star(), script: api.Script{Workers: 2, By: []int{1}, Seeds: []uint64{1, 2}}, at: at, inbox: inbox}
			wantLoaded(t, m)
			b := m.bytes()
			for _, many := range []int{len(inbox) - 1, len(inbox) + 1, 1 << 8, 1 << 16, 1 << 31, 1<<32 - 1} {
				other := slices.Clone(b)
				other[16], other[17], other[18], other[19] = byte(many>>24), byte(many>>16), byte(many>>8), byte(many)
				if many != len(inbox) && !mayLoad(m, other) {
					wantNotLoaded(t, fmt.Sprint(many, " messages"), c, m.world.Graph(), m.script, other)
				}
			}
		}
	}
}

// All numbers of four bytes may be; what would not go into four bytes is told by no bytes.
func TestP24_7AndP5GreatNumbers(t *testing.T) {
	c := coded(t, several, "send 3; take 3; jump 0")
	const last = 1<<32 - 1
	for _, n := range [][3]int{{1<<31 - 1, 1 << 31, 3}, {last - 1, last - 4, 7}, {last - 1, 5, last}} {
		m := &machine{code: c, world: star(), script: api.Script{Workers: 1, Seeds: []uint64{1}}, steps: n[0], sent: n[1], most: n[2]}
		e := loaded(t, m)
		want(t, e, m)
		m.step()
		if e.Step() != api.OK {
			t.Error(n)
		}
		m.trace = []api.Mark{{Kind: api.SendInstr, Messages: 4}}
		want(t, e, m)
	}
	for _, n := range [][3]int{{last, 0, 0}, {0, last, 0}, {0, last - 3, 9}} {
		m := &machine{code: c, world: star(), script: api.Script{Workers: 1, Seeds: []uint64{1}}, steps: n[0], sent: n[1], most: n[2]}
		e := loaded(t, m)
		if e.Step() != api.OK || e.Steps() != n[0]+1 || e.Sent() != n[1]+4 || e.Most() != max(n[2], 4) {
			t.Error(n, e.Steps(), e.Sent(), e.Most())
		}
		if b, wrong := e.Save(); wrong != api.ErrSpace || len(b) != 0 {
			t.Error(n, b, wrong)
		}
	}
}

// Columns that do not fit the code or the graph, and a graph, code or a script that may not be.
func TestP24_7LoadIsRefused(t *testing.T) {
	c, w, s := compiled(t, short), pair(), api.Script{Workers: 2, Seeds: []uint64{1}}
	g := w.Graph()
	of := func(w plain.World) []byte { return (&machine{code: c, world: w, script: s}).bytes() }
	if e, wrong := engine.Load(c, g, s, of(w)); e == nil || wrong != api.OK {
		t.Error(wrong)
	}
	if e, wrong := engine.Load(c, g, s, of(w.With("zz", api.OfEdge, api.Int, 5))); e == nil || wrong != api.OK {
		t.Error(wrong)
	}
	for what, b := range map[string][]byte{
		"fewer nodes":              of(plain.Of(1, "00").Zeros(c.Program.Decls)),
		"more nodes":               of(plain.Of(3, "01").Zeros(c.Program.Decls)),
		"a column is missing":      of(plain.Of(2, "01").With("i", api.Scalar, api.Int, 1)),
		"no columns":               of(plain.Of(2, "01")),
		"a column of other kind":   of(w.With("i", api.Scalar, api.Bool, 1)),
		"another kind of nodes":    of(w.With("c", api.OfNode, api.Int, 0, 1)),
		"more edges":               of(plain.Of(2, "01", "01").Zeros(c.Program.Decls).With("zz", api.OfEdge, api.Int, 1, 2)),
		"no edges":                 of(plain.Of(2).Zeros(c.Program.Decls).With("zz", api.OfEdge, api.Int)),
		"a value that is no truth": slices.Concat(make([]byte, 21), columnsOfShort(1, 2, 0)),
	} {
		wantNotLoaded(t, what, c, g, s, b)
	}
	wantNotLoaded(t, "no graph", c, nil, s, of(w))
	wantNotLoaded(t, "another graph", c, graph.New(3, []api.Edge{{}}), s, of(w))
	for _, workers := range []int{-1, 0, api.MaxWorkers + 1} {
		wantNotLoaded(t, "workers", c, g, api.Script{Workers: workers}, of(w))
	}
	for what, bad := range map[string]api.Code{"no code": {}, "no list": {Program: c.Program}, "code without its end": {Program: c.Program, List: c.List[:3]}, "code of no program": {List: c.List}, "of another program": {Program: source(t, "(loop true)"), List: []api.Instr{{Kind: api.Stop}}}} {
		wantNotLoaded(t, what, bad, g, s, of(w))
	}
	// Of another script, or of other edges, as many of them, it may be.
	for _, other := range scripts() {
		if e, wrong := engine.Load(c, graph.New(2, []api.Edge{{From: 1, To: 1}}), other, of(w)); e == nil || wrong != api.OK {
			t.Error(other, wrong)
		}
	}
}
