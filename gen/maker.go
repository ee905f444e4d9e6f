package gen

import "reticule/api"

// maker puts the code of statements together.
type maker struct {
	stmts []api.Stmt
	list  []api.Instr
}

// add puts an instruction of the statement at a place behind all others. What it answers is kept till it is known where that leads: done then, it lets it lead behind all that there are by then.
func (m *maker) add(kind api.InstrKind, stmt int) (leadHere func()) {
	at := len(m.list)
	m.list = append(m.list, api.Instr{Kind: kind, At: stmt})
	return func() { m.list[at].To = len(m.list) }
}

// jumpBack adds a Jump to a place that is known.
func (m *maker) jumpBack(to int) {
	m.list = append(m.list, api.Instr{Kind: api.Jump, To: to})
}

func (m *maker) all(stmts []int) {
	for _, at := range stmts {
		m.stmt(at)
	}
}

func (m *maker) stmt(at int) {
	switch s := m.stmts[at]; s.Kind {
	case api.SetIt:
		m.add(api.SetInstr, at)
	case api.FoldIt:
		m.add(api.FoldInstr, at)
	case api.EachIt:
		m.add(api.SendInstr, at)
		m.add(api.TakeInstr, at)
	case api.IfIt:
		otherwise := m.add(api.Unless, at)
		m.all(s.Then)
		behind := m.add(api.Jump, 0)
		otherwise()
		m.all(s.Else)
		behind()
	case api.WhileIt:
		again := len(m.list)
		behind := m.add(api.Unless, at)
		m.all(s.Then)
		m.jumpBack(again)
		behind()
	}
}
