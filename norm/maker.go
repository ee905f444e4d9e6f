package norm

import (
	"strings"

	"reticule/api"
	"reticule/num"
	"reticule/prog"
)

// none is the place of an expression where there is none.
const none = -1

// maker puts a program together out of parts of another one, as it would be read: each expression, and each statement, behind all in it.
type maker struct {
	from, to api.Program
	become   func(*maker, api.Stmt) []int // puts what a statement is then, and tells the places
}

// tooMuch is what a maker gives up with.
type tooMuch struct{}

// made is a program that is put together of another one; false, if it is none that can be.
func made(from api.Program, become func(*maker, api.Stmt) []int) (p api.Program, is bool) {
	defer func() {
		switch thrown := recover().(type) {
		case nil, tooMuch:
		default:
			panic(thrown) // it is no fault of what was handed in
		}
	}()
	m := maker{from: from, become: become}
	for _, d := range from.Decls {
		d.Name = strings.Clone(d.Name)
		m.to.Decls = append(m.to.Decls, d)
	}
	m.to.Main = m.stmts(from.Main...)
	return m.to, prog.Sound(m.to)
}

// mustFit gives up, if there is more than any program has, each expression, and each statement, being a form or more: loops within loops would be very many.
func (m *maker) mustFit() {
	if len(m.to.Exprs)+len(m.to.Stmts) > api.MaxForms {
		panic(tooMuch{})
	}
}

// stmts puts what statements are then, one behind the other, and are the places.
func (m *maker) stmts(places ...int) []int {
	var all []int
	for _, at := range places {
		all = append(all, m.become(m, m.from.Stmts[at])...)
	}
	return all
}

// stmt puts a statement, behind what is in it.
func (m *maker) stmt(s api.Stmt) int {
	t := api.Stmt{Kind: s.Kind, Name: strings.Clone(s.Name), Op: s.Op, E: m.expr(s.E), Cond: m.expr(s.Cond)}
	for _, a := range s.Acts {
		a.Name, a.E, a.Cond = strings.Clone(a.Name), m.expr(a.E), m.expr(a.Cond)
		t.Acts = append(t.Acts, a)
	}
	t.Then = m.stmts(s.Then...)
	t.Else = m.stmts(s.Else...)
	m.to.Stmts = append(m.to.Stmts, t)
	m.mustFit()
	return len(m.to.Stmts) - 1
}

func (m *maker) exprs(places ...int) []int {
	var all []int
	for _, at := range places {
		all = append(all, m.expr(at))
	}
	return all
}

func (m *maker) expr(at int) int {
	if at == none {
		return none
	}
	e := m.from.Exprs[at]
	e.Name, e.Kids = strings.Clone(e.Name), m.exprs(e.Kids...)
	m.to.Exprs = append(m.to.Exprs, e)
	m.mustFit()
	return len(m.to.Exprs) - 1
}

// unrolled puts a loop that is looked at behind what is in it as that, and a loop that is looked at ahead.
func (m *maker) unrolled(s api.Stmt) []int {
	var places []int
	switch s.Kind {
	case api.LoopIt:
		places = m.stmts(s.Then...)
		s.Kind = api.WhileIt
		fallthrough
	default:
		places = append(places, m.stmt(s))
	}
	return places
}

// decided puts a branch of which it is known which way it goes as that way.
func (m *maker) decided(s api.Stmt) []int {
	switch s.Kind {
	case api.IfIt:
		if m.isKnown(s.E, true) {
			return m.stmts(s.Then...)
		}
		fallthrough
	case api.WhileIt:
		if m.isKnown(s.E, false) {
			return m.stmts(s.Else...) // of a loop nothing
		}
	}
	return []int{m.stmt(s)}
}

// isKnown tells whether an expression is known ahead to be a truth.
func (m *maker) isKnown(at int, truth bool) bool {
	e := m.from.Exprs[at]
	return e.Kind == api.Lit && num.Truth(e.Num) == truth
}
