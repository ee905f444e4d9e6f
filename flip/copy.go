package flip

import (
	"strings"

	"reticule/api"
)

// copied is a program anew, in memory of its own.
func copied(p api.Program) api.Program {
	q := api.Program{Decls: anew(p.Decls), Exprs: anew(p.Exprs), Stmts: anew(p.Stmts), Main: anew(p.Main)}
	for i := range q.Decls {
		own(&q.Decls[i].Name)
	}
	for i := range q.Exprs {
		e := &q.Exprs[i]
		own(&e.Name)
		e.Kids = anew(e.Kids)
	}
	for i := range q.Stmts {
		s := &q.Stmts[i]
		own(&s.Name)
		s.Acts, s.Then, s.Else = anew(s.Acts), anew(s.Then), anew(s.Else)
	}
	eachAct(q, func(a *api.Act) { own(&a.Name) })
	return q
}

// anew is a list in memory of its own; nil, if it is empty.
func anew[T any](l []T) []T {
	if len(l) == 0 {
		return nil
	}
	m := make([]T, len(l))
	copy(m, l)
	return m
}

// own lets a name lie in memory of its own.
func own(name *string) { *name = strings.Clone(*name) }
