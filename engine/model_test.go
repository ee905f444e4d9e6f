package engine_test

import (
	"fmt"
	"slices"
	"strconv"
	"strings"
	"testing"

	"reticule/api"
	"reticule/column"
	"reticule/engine"
	"reticule/gen"
	"reticule/graph"
	"reticule/ir"
	"reticule/norm"
	"reticule/num"
	"reticule/plain"
	"reticule/prog"
	"reticule/proof"
)

// The calls have the signatures that the chapter lists.
var (
	_ func(c api.Code, g *graph.Graph, t *column.Table, s api.Script) *engine.Engine       = engine.New
	_ func(e *engine.Engine) api.Errno                                                     = (*engine.Engine).Step
	_ func(e *engine.Engine, most int) (int, api.Errno)                                    = (*engine.Engine).Run
	_ func(e *engine.Engine) bool                                                          = (*engine.Engine).Halted
	_ func(e *engine.Engine) int                                                           = (*engine.Engine).Steps
	_ func(e *engine.Engine) int                                                           = (*engine.Engine).At
	_ func(e *engine.Engine) *column.Table                                                 = (*engine.Engine).Table
	_ func(e *engine.Engine) []api.Message                                                 = (*engine.Engine).Inbox
	_ func(e *engine.Engine) int                                                           = (*engine.Engine).Sent
	_ func(e *engine.Engine) int                                                           = (*engine.Engine).Most
	_ func(e *engine.Engine) *engine.Engine                                                = (*engine.Engine).Fork
	_ func(e *engine.Engine) []api.Mark                                                    = (*engine.Engine).Trace
	_ func(e *engine.Engine) ([]byte, api.Errno)                                           = (*engine.Engine).Save
	_ func(c api.Code, g *graph.Graph, s api.Script, b []byte) (*engine.Engine, api.Errno) = engine.Load
)

func source(t *testing.T, text string) api.Program {
	t.Helper()
	p, at, e := prog.Source(text)
	if at != 0 || e != api.OK {
		t.Fatalf("%q is no program: %d, %d", text, at, e)
	}
	return p
}

// compiled is the code of a program's normal form.
func compiled(t *testing.T, text string) api.Code {
	t.Helper()
	p, e := norm.Normal(source(t, text))
	if e != api.OK {
		t.Fatalf("%q has no normal form: %d", text, e)
	}
	c, e := gen.Compile(p)
	if e != api.OK {
		t.Fatalf("%q has no code: %d", text, e)
	}
	return c
}

// coded is code of a program whose instructions are such words, with semicolons between.
func coded(t *testing.T, from, words string) api.Code {
	t.Helper()
	var lines string
	for i, one := range strings.Split(words, ";") {
		lines += strconv.Itoa(i) + " " + strings.TrimSpace(one) + "\n"
	}
	c, e := ir.Parse(source(t, from), lines)
	if e != api.OK {
		t.Fatalf("%q is no code of %s: %d", words, from, e)
	}
	return c
}

func printed(c api.Code) string {
	s, _ := ir.Print(c)
	text, _ := prog.Text(c.Program)
	return strings.ReplaceAll(text+s, "\n", "; ")
}

// machine is an engine, reckoned plainly over a world.
type machine struct {
	code                  api.Code
	world                 plain.World
	script                api.Script
	at, steps, sent, most int
	halted                bool
	inbox                 []api.Message
	trace                 []api.Mark
}

// both are an engine and a machine that stand at the beginning.
func both(t *testing.T, c api.Code, w plain.World, s api.Script) (*engine.Engine, *machine) {
	t.Helper()
	e := engine.New(c, w.Graph(), w.Table(), s)
	if e == nil {
		t.Fatalf("%s, %v: it may not be", printed(c), s)
	}
	return e, &machine{code: c, world: w, script: s}
}

func (m *machine) seed() uint64 {
	if len(m.script.Seeds) == 0 {
		return 0
	}
	return m.script.Seeds[m.steps%len(m.script.Seeds)]
}

// nodesOf are a worker's nodes, rising.
func (m *machine) nodesOf(worker int) []int {
	var l []int
	for v := range m.world.Nodes {
		by := 0
		if v < len(m.script.By) {
			by = m.script.By[v] % m.script.Workers
		}
		if by == worker || by+m.script.Workers == worker {
			l = append(l, v)
		}
	}
	return l
}

// rows are the nodes of each worker, in the order of a number.
func (m *machine) rows(k uint64) [][]int {
	var rows [][]int
	for _, worker := range plain.ByNumber(k)(m.script.Workers) {
		own := m.nodesOf(worker)
		var row []int
		for _, i := range plain.ByNumber(k)(len(own)) {
			row = append(row, own[i])
		}
		rows = append(rows, row)
	}
	return rows
}

func (m *machine) step() {
	i, k := m.code.List[m.at], m.seed()
	mark := api.Mark{At: m.at, Kind: i.Kind}
	m.steps++
	m.at++
	p := m.code.Program
	switch i.Kind {
	case api.SetInstr, api.FoldInstr:
		m.world, _, _ = m.world.Run(p, []int{i.At}, 1, plain.AsIs)
	case api.SendInstr:
		m.send(p.Stmts[i.At].Acts, k)
	case api.TakeInstr:
		m.take(p.Stmts[i.At].Acts)
	case api.Unless:
		if is, _ := m.world.Value(p, p.Stmts[i.At].E, -1, -1, -1); is == 0 {
			m.at = i.To
		}
	case api.Jump:
		m.at = i.To
	case api.Stop:
		m.halted = true
		m.at = mark.At
	}
	mark.Messages = len(m.inbox)
	m.trace = append(m.trace, mark)
}

func (m *machine) send(acts []api.Act, k uint64) {
	behind := m.world.Fork()
	var inbox []api.Message
	for _, row := range m.rows(k) {
		var sent []api.Message
		for _, v := range row {
			puts, _ := m.world.Puts(m.code.Program, acts, v)
			store(behind, v, puts)
			messages, _ := m.world.Sends(m.code.Program, acts, v, k)
			sent = append(sent, messages...)
		}
		if k%3 == 0 {
			sent = combined(sent, acts)
		}
		inbox = append(inbox, sent...)
	}
	m.world, m.inbox = behind, plain.Turned(inbox, k)
	m.sent += len(inbox)
	m.most = max(m.most, len(inbox))
}

func (m *machine) take(acts []api.Act) {
	behind := m.world.Fork()
	for v := range m.world.Nodes {
		takes, _ := m.world.Takes(acts, v, m.inbox)
		store(behind, v, takes)
	}
	m.world, m.inbox = behind, nil
}

// store lets writes of a node stand in a world.
func store(w plain.World, v int, l []api.Write) {
	for _, one := range l {
		w.Columns[api.Key{Name: one.Name, Side: api.OfNode}].Vals[v] = one.Val
	}
}

// combined are messages, one for each node and tag, by node, then by tag.
func combined(l []api.Message, acts []api.Act) []api.Message {
	var out []api.Message
	for to := range api.MaxNodes {
		for tag, a := range acts {
			var one []api.Message
			for _, m := range l {
				if m.To == to && m.Tag == tag && one == nil {
					one = []api.Message{m}
				} else if m.To == to && m.Tag == tag {
					one[0].Val, _ = num.Do(a.Op, one[0].Val, m.Val)
				}
			}
			out = append(out, one...)
		}
	}
	return out
}

// bytes are what Save should be.
func (m *machine) bytes() []byte {
	var b []byte
	for _, n := range []int{m.at, m.steps, m.sent, m.most, len(m.inbox)} {
		b = append(b, byte(n>>24), byte(n>>16), byte(n>>8), byte(n))
	}
	halted := map[bool]byte{true: 1}[m.halted]
	b = append(b, halted)
	for _, one := range m.inbox {
		b = append(append(b, byte(one.To), byte(one.Tag)), wordBytes(one.Val)...)
	}
	columns, _ := column.Encode(m.world.Table())
	return append(b, columns...)
}

func wordBytes(w api.Word) []byte {
	var b []byte
	for at := 56; at >= 0; at -= 8 {
		b = append(b, byte(w>>at))
	}
	return b
}

// sorted are messages by node, then by tag, then by value.
func sorted(l []api.Message) []api.Message {
	l = slices.Clone(l)
	slices.SortFunc(l, func(a, b api.Message) int {
		return slices.Compare([]api.Word{api.Word(a.To), api.Word(a.Tag), a.Val}, []api.Word{api.Word(b.To), api.Word(b.Tag), b.Val})
	})
	return l
}

// tell is all that an engine answers.
func tell(e *engine.Engine) string {
	b, wrong := e.Save()
	return fmt.Sprint(e.Halted(), e.Steps(), e.At(), plain.Tell(e.Table()), e.Inbox(), e.Sent(), e.Most(), e.Trace(), b, wrong)
}

// want asks that an engine is as far as a machine, and answers all that it should.
func want(t *testing.T, e *engine.Engine, m *machine) {
	t.Helper()
	should := fmt.Sprint(m.halted, m.steps, m.at, plain.Tell(m.world.Table()), sorted(m.inbox), m.sent, m.most, m.trace, m.bytes(), api.OK)
	if got := tell(e); got != should {
		t.Fatalf("%s, %v, in %d steps: %s\nnot %s", printed(m.code), m.script, m.steps, got, should)
	}
}

// steps does as many steps of both as there are, but at most so many, and asks behind each that they are alike.
func steps(t *testing.T, e *engine.Engine, m *machine, most int) {
	t.Helper()
	want(t, e, m)
	for range most {
		if m.halted {
			return
		}
		m.step()
		if wrong := e.Step(); wrong != api.OK {
			t.Fatalf("%s, %v, in %d steps: %d", printed(m.code), m.script, m.steps, wrong)
		}
		want(t, e, m)
	}
}

func scripts() []api.Script { return proof.Scripts() }

// texts are those of programs whose code runs on: of all kinds of statements, some within others.
func texts() []string {
	l := proof.Running()
	for _, text := range []string{
		"(while (< i 3) (set i (+ (max i 0) 1)) (if b ((if (< j i) ((set b false)) ())) ((while (< j 2) (set j (+ (max j 0) 1))) (if b () ((set b true))))))",
		"(while (< (& i 7) 5) (set i (+ (& i 7) 1)) (while (and b (< j 3)) (set j (+ (max j 0) 1)) (each (push ni max out (+ (own nj) i)) (push nb or in (via eb) (own nb)))) (fold b or (own nb)))",
		"(each (put ni (own nj)) (put nj (own ni)) (push nb and out (own nb))) (each (push ni + out (own nj)) (push ni + in (via ei)) (push nj min out (id)) (push nj min in (deg in) (own nb)) (push nb or out (via eb)) (push nb or in (own nb)))",
		"(fold i + (own ni)) (fold i + 1 (own nb)) (fold j max (own nj) (< 0 (own nj))) (fold b or (own nb)) (fold b and (= (own ni) (own nj)) (own nb))",
	} {
		l = append(l, proof.Head+text)
	}
	return l
}
