package gen

import (
	"reticule/api"
	"reticule/column"
	"reticule/den"
	"reticule/eval"
	"reticule/graph"
	"reticule/num"
)

// none is the place of an edge, or a node, where there is none.
const none = -1

// machine does code that may be run; its table is as it is by now, and nobody else's.
type machine struct {
	code      api.Code
	graph     *graph.Graph
	table     *column.Table
	at, steps int
	stopped   bool
}

// step does an instruction, and goes on to the next one; or it is the error.
func (m *machine) step() (wrong api.Errno) {
	i := m.code.List[m.at]
	p := m.code.Program
	m.at++
	m.steps++
	switch i.Kind {
	case api.SetInstr, api.FoldInstr:
		m.table, _, wrong = den.Do(p, i.At, m.graph, m.table, 1)
	case api.TakeInstr:
		m.table, wrong = den.Region(p, p.Stmts[i.At].Acts, m.graph, m.table)
	case api.Unless:
		var is api.Word
		is, wrong = eval.Value(p, p.Stmts[i.At].E, m.graph, m.table, eval.Place{Node: none, Edge: none, Far: none})
		if !num.Truth(is) {
			m.at = i.To
		}
	case api.Jump:
		m.at = i.To
	case api.Stop:
		m.stopped = true
	}
	return wrong
}
