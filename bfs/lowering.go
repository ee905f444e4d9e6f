package bfs

import (
	"strings"

	"reticule/api"
)

// lowering is a sound program that is built anew without levels, and the columns that it has more then.
type lowering struct {
	program api.Program
	more    []api.Decl
}

func (l lowering) all(b *builder) {
	for _, d := range l.program.Decls {
		d.Name = strings.Clone(d.Name)
		b.declare(d)
	}
	// That names are too many is told here, ahead of statements for which there are none.
	for _, d := range l.more {
		b.declare(d)
	}
	b.program.Main = b.all(l.stmts(l.program.Main)...)
}

func (l lowering) exprs(places []int) []part {
	var parts []part
	for _, at := range places {
		parts = append(parts, l.expr(at))
	}
	return parts
}

func (l lowering) expr(at int) part {
	if at == none {
		return nothing
	}
	return func(b *builder) int {
		e := l.program.Exprs[at]
		e.Name, e.Kids = strings.Clone(e.Name), b.all(l.exprs(e.Kids)...)
		return b.expr(e)
	}
}

// stmts are the statements at places, one behind the other, as what they are without levels.
func (l lowering) stmts(places []int) []part {
	var parts []part
	for _, at := range places {
		if l.program.Stmts[at].Kind == api.BfsIt {
			parts = append(parts, l.levels(at)...)
		} else {
			parts = append(parts, l.other(l.program.Stmts[at]))
		}
	}
	return parts
}

// other is a statement that is none of levels, with what is in it.
func (l lowering) other(s api.Stmt) part {
	return func(b *builder) int {
		t := api.Stmt{Kind: s.Kind, Name: strings.Clone(s.Name), Op: s.Op, E: l.expr(s.E)(b), Cond: l.expr(s.Cond)(b)}
		for _, a := range s.Acts {
			a.Name, a.E, a.Cond = strings.Clone(a.Name), l.expr(a.E)(b), l.expr(a.Cond)(b)
			t.Acts = append(t.Acts, a)
		}
		t.Then = b.all(l.stmts(s.Then)...)
		t.Else = b.all(l.stmts(s.Else)...)
		return b.stmt(t)
	}
}

// levels are the statements that the one of levels at a place is.
func (l lowering) levels(at int) []part {
	s := l.program.Stmts[at]
	mine := l.more[perLevels*levels(l.program.Stmts[:at]):]
	level, root, more, hit := mine[0].Name, mine[1].Name, mine[2].Name, mine[3].Name
	column := strings.Clone(s.Name)
	const unreached = -1
	reached := call(api.Eq, own(column), scalar(level))
	next := []part{
		put(hit, truth(0), nothing),
		push(hit, api.Or, truth(1), reached),
		set(level, call(api.Add, scalar(level), number(1))),
		put(column, scalar(level), call(api.And, own(hit), call(api.Eq, own(column), number(unreached)))),
		set(more, truth(0)),
		fold(more, api.Or, reached),
	}
	return []part{
		set(root, l.expr(s.E)),
		put(column, call(api.If, call(api.Eq, id(), scalar(root)), number(0), number(unreached)), nothing),
		set(level, number(0)),
		set(more, truth(0)),
		fold(more, api.Or, reached),
		while(scalar(more), append(l.stmts(s.Then), next...)...),
	}
}
