package order

import (
	"slices"

	"reticule/api"
	"reticule/eval"
	"reticule/num"
)

// runner does statements of a program that fits itself; its table is as it is by now, and nobody else's.
type runner struct {
	scene
	fuel, steps int
	seed        func() uint64 // that of the region that comes next
}

// step counts one, if it is not one too many.
func (r *runner) step() api.Errno {
	if r.steps >= r.fuel {
		return api.ErrCap
	}
	r.steps++
	return api.OK
}

func (r *runner) all(stmts ...int) api.Errno {
	for _, at := range stmts {
		if wrong := r.stmt(r.program.Stmts[at]); wrong != api.OK {
			return wrong
		}
	}
	return api.OK
}

func (r *runner) stmt(s api.Stmt) api.Errno {
	switch s.Kind {
	case api.IfIt:
		return r.branch(s)
	case api.WhileIt:
		return r.while(s)
	case api.LoopIt:
		if wrong := r.all(s.Then...); wrong != api.OK {
			return wrong
		}
		return r.while(s)
	}
	if wrong := r.step(); wrong != api.OK {
		return wrong
	}
	switch s.Kind {
	case api.SetIt:
		return r.set(s)
	case api.FoldIt:
		return r.fold(s)
	case api.EachIt:
		return r.each(s)
	}
	return r.levels(s) // BfsIt: there is no other kind
}

// scalar is an expression's value that stands at no node.
func (r *runner) scalar(e int) (api.Word, api.Errno) { return r.value(e, alone(none)) }

// asked is a step in which an expression is looked at, and tells whether it is true.
func (r *runner) asked(e int) (bool, api.Errno) {
	if wrong := r.step(); wrong != api.OK {
		return false, wrong
	}
	w, wrong := r.scalar(e)
	return num.Truth(w), wrong
}

func (r *runner) branch(s api.Stmt) api.Errno {
	is, wrong := r.asked(s.E)
	if wrong != api.OK {
		return wrong
	}
	if is {
		return r.all(s.Then...)
	}
	return r.all(s.Else...)
}

func (r *runner) while(s api.Stmt) api.Errno {
	for {
		is, wrong := r.asked(s.E)
		if wrong != api.OK || !is {
			return wrong
		}
		if wrong := r.all(s.Then...); wrong != api.OK {
			return wrong
		}
	}
}

func (r *runner) set(s api.Stmt) api.Errno {
	w, wrong := r.scalar(s.E)
	if wrong != api.OK {
		return wrong
	}
	return r.table.Set(scalarKey(s.Name), 0, w)
}

func (r *runner) fold(s api.Stmt) api.Errno {
	sum, wrong := eval.Sum(r.program, s.Op, s.E, s.Cond, r.graph, r.table)
	if wrong != api.OK {
		return wrong
	}
	return takeIn(r.table, scalarKey(s.Name), 0, s.Op, sum)
}

func (r *runner) each(s api.Stmt) api.Errno {
	behind, wrong := Region(r.program, s.Acts, r.graph, r.table, r.seed())
	if wrong != api.OK {
		return wrong
	}
	r.table = behind
	return api.OK
}

// unreached is the level of a node to which no way was found so far.
const unreached = -1

// levels goes from a node on, level by level.
func (r *runner) levels(s api.Stmt) api.Errno {
	root, wrong := r.scalar(s.E)
	if wrong != api.OK {
		return wrong
	}
	level := nodeKey(s.Name)
	list := slices.Repeat([]api.Word{unreached}, r.graph.N())
	if 0 <= root && root < api.Word(len(list)) {
		list[root] = 0
	}
	if wrong := r.table.Load(level, list); wrong != api.OK {
		return wrong
	}
	// What is done within may change the levels, too: they are looked at anew each time.
	for l := api.Word(0); slices.Contains(r.table.List(level), l); l++ {
		if wrong := r.step(); wrong != api.OK {
			return wrong
		}
		if wrong := r.all(s.Then...); wrong != api.OK {
			return wrong
		}
		list := r.table.List(level)
		r.spread(list, l)
		if wrong := r.table.Load(level, list); wrong != api.OK {
			return wrong
		}
	}
	return api.OK
}

// spread lets those that were not reached have the next level, where an edge leads to them from a node of a level.
func (r *runner) spread(levels []api.Word, l api.Word) {
	for i := range r.graph.M() {
		e, _ := r.graph.Edge(i)
		if levels[e.From] == l && levels[e.To] == unreached {
			levels[e.To] = l + 1
		}
	}
}
