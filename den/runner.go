package den

import (
	"slices"

	"reticule/api"
	"reticule/eval"
	"reticule/num"
)

// runner does statements of a program that is ready; its table is as it is by now, and nobody else's.
type runner struct {
	scene
	fuel, steps int
}

// step counts one; it gives up, if that is one too many.
func (r *runner) step() {
	if r.steps >= r.fuel {
		panic(fault{api.ErrCap})
	}
	r.steps++
}

func (r *runner) all(stmts []int) {
	for _, at := range stmts {
		r.stmt(r.program.Stmts[at])
	}
}

func (r *runner) stmt(s api.Stmt) {
	switch s.Kind {
	case api.SetIt:
		r.step()
		must(r.table.Set(scalarKey(s.Name), 0, r.scalar(s.E)))
	case api.FoldIt:
		r.step()
		r.fold(s)
	case api.EachIt:
		r.step()
		acts := region{scene: r.scene, behind: r.table.Fork()}
		acts.all(s.Acts)
		r.table = acts.behind
	case api.IfIt:
		if r.asked(s.E) {
			r.all(s.Then)
		} else {
			r.all(s.Else)
		}
	case api.LoopIt:
		r.all(s.Then)
		for r.asked(s.E) {
			r.all(s.Then)
		}
	case api.WhileIt:
		for r.asked(s.E) {
			r.all(s.Then)
		}
	case api.BfsIt:
		r.levels(s)
	}
}

// scalar is an expression's value that stands at no node.
func (r *runner) scalar(e int) api.Word { return r.value(e, alone(none)) }

// asked is a step in which an expression is looked at, and tells whether it is true.
func (r *runner) asked(e int) bool {
	r.step()
	return num.Truth(r.scalar(e))
}

func (r *runner) fold(s api.Stmt) {
	sum, wrong := eval.Sum(r.program, s.Op, s.E, s.Cond, r.graph, r.table)
	must(wrong)
	takeIn(r.table, scalarKey(s.Name), 0, s.Op, sum)
}

// unreached is the level of a node to which no way was found so far.
const unreached = -1

// levels goes from a node on, level by level.
func (r *runner) levels(s api.Stmt) {
	r.step()
	level := nodeKey(s.Name)
	root := r.scalar(s.E)
	must(r.table.Fill(level, unreached))
	if 0 <= root && root < api.Word(r.graph.N()) {
		must(r.table.Set(level, int(root), 0))
	}
	// What is done within may change the levels, too: they are looked at anew each time.
	for l := api.Word(0); slices.Contains(r.table.List(level), l); l++ {
		r.step()
		r.all(s.Then)
		r.spread(level, l)
	}
}

// spread goes from all nodes of a level to those that were not reached.
func (r *runner) spread(level api.Key, l api.Word) {
	ahead := r.table.List(level)
	for v, has := range ahead {
		if has != l {
			continue
		}
		for at := range r.along(v, false) {
			if ahead[at.Far] == unreached {
				must(r.table.Set(level, at.Far, l+1))
			}
		}
	}
}
