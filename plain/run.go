package plain

import (
	"slices"

	"reticule/api"
	"reticule/num"
	"reticule/perm"
)

// Turn is in which order so many things come.
type Turn func(n int) []int

// AsIs lets things come as they stand.
func AsIs(n int) []int {
	var l []int
	for i := range n {
		l = append(l, i)
	}
	return l
}

// ByNumber lets things come in the order of a number; more than MaxPerm as they stand, or the last one first.
func ByNumber(k uint64) Turn {
	return func(n int) []int {
		if n <= api.MaxPerm {
			l, _ := perm.From(n, k)
			return l
		}
		l := AsIs(n)
		if k%2 == 1 {
			slices.Reverse(l)
		}
		return l
	}
}

// Region is the world behind acts, where acts, nodes, and each node's edges come in some order; or the first error.
func (w World) Region(p api.Program, l []api.Act, turn Turn) (World, api.Errno) {
	behind := w.Fork()
	for _, i := range turn(len(l)) {
		a := l[i]
		for _, v := range turn(w.Nodes) {
			if a.Cond != -1 {
				is, wrong := w.Value(p, a.Cond, v, -1, -1)
				if wrong != api.OK {
					return World{}, wrong
				}
				if is == 0 {
					continue
				}
			}
			if wrong := w.act(p, a, v, behind, turn); wrong != api.OK {
				return World{}, wrong
			}
		}
	}
	return behind, api.OK
}

// act is what one node does.
func (w World) act(p api.Program, a api.Act, v int, behind World, turn Turn) api.Errno {
	if a.Kind == api.PutIt {
		val, wrong := w.Value(p, a.E, v, -1, -1)
		if wrong != api.OK {
			return wrong
		}
		return behind.set(a.Name, v, val)
	}
	mine := w.edgesOf(v, a.In)
	for _, n := range turn(len(mine)) {
		i := mine[n]
		far, _ := other(w.Edges[i], v, a.In)
		val, wrong := w.Value(p, a.E, v, i, far)
		if wrong != api.OK {
			return wrong
		}
		to := far
		if a.Kind == api.PullIt {
			to = v
		}
		old, wrong := behind.get(a.Name, api.OfNode, to)
		if wrong != api.OK {
			return wrong
		}
		val, _ = num.Do(a.Op, old, val)
		if wrong := behind.set(a.Name, to, val); wrong != api.OK {
			return wrong
		}
	}
	return api.OK
}

// edgesOf are the places of the edges that leave a node, or come to it (in), rising.
func (w World) edgesOf(v int, in bool) []int {
	var l []int
	for i, e := range w.Edges {
		if _, has := other(e, v, in); has {
			l = append(l, i)
		}
	}
	return l
}

// run is a world in which statements are done, how many steps they may take, and how many regions were done.
type run struct {
	World
	p       api.Program
	left    int
	turns   []Turn
	regions int
}

// Run is the world behind statements of a program that fits, and how many steps they take; false, if that is more than fuel. Regions come in the orders, one behind the other, and from the first one on again; all else in the first one.
func (w World) Run(p api.Program, stmts []int, fuel int, turns ...Turn) (World, int, bool) {
	r := run{World: w.Fork(), p: p, left: fuel, turns: turns}
	if !r.all(stmts) {
		return World{}, 0, false
	}
	return r.World, fuel - r.left, true
}

func (r *run) all(stmts []int) bool {
	for _, at := range stmts {
		if !r.stmt(r.p.Stmts[at]) {
			return false
		}
	}
	return true
}

// step tells whether there is one left, and takes it.
func (r *run) step() bool {
	r.left--
	return r.left >= 0
}

func (r *run) scalar(e int) api.Word {
	v, _ := r.Value(r.p, e, -1, -1, -1)
	return v
}

func (r *run) own(name string) []api.Word {
	return r.Columns[api.Key{Name: name, Side: api.OfNode}].Vals
}

func (r *run) stmt(s api.Stmt) bool {
	switch s.Kind {
	case api.WhileIt, api.LoopIt:
		return r.loop(s)
	case api.BfsIt:
		return r.step() && r.bfs(s)
	}
	if !r.step() {
		return false
	}
	scalar := r.Columns[api.Key{Name: s.Name, Side: api.Scalar}].Vals
	switch s.Kind {
	case api.SetIt:
		scalar[0] = r.scalar(s.E)
	case api.FoldIt:
		for _, val := range r.taken(s) {
			scalar[0], _ = num.Do(s.Op, scalar[0], val)
		}
	case api.EachIt:
		r.World, _ = r.Region(r.p, s.Acts, r.turns[r.regions%len(r.turns)])
		r.regions++
	case api.IfIt:
		if r.scalar(s.E) == 0 {
			return r.all(s.Else)
		}
		return r.all(s.Then)
	}
	return true
}

// taken are the nodes' values that a fold takes in.
func (r *run) taken(s api.Stmt) []api.Word {
	var l []api.Word
	for _, v := range r.turns[0](r.Nodes) {
		if s.Cond != -1 {
			if is, _ := r.Value(r.p, s.Cond, v, -1, -1); is == 0 {
				continue
			}
		}
		val, _ := r.Value(r.p, s.E, v, -1, -1)
		l = append(l, val)
	}
	return l
}

func (r *run) loop(s api.Stmt) bool {
	if s.Kind == api.LoopIt && !r.all(s.Then) {
		return false
	}
	for r.step() {
		if r.scalar(s.E) == 0 {
			return true
		}
		if !r.all(s.Then) {
			return false
		}
	}
	return false
}

func (r *run) bfs(s api.Stmt) bool {
	root := r.scalar(s.E)
	for v := range r.own(s.Name) {
		r.own(s.Name)[v] = -1
		if api.Word(v) == root {
			r.own(s.Name)[v] = 0
		}
	}
	for level := api.Word(0); slices.Contains(r.own(s.Name), level); level++ {
		if !r.step() || !r.all(s.Then) {
			return false
		}
		has := slices.Clone(r.own(s.Name))
		for _, i := range r.turns[0](len(r.Edges)) {
			if e := r.Edges[i]; has[e.From] == level && has[e.To] == -1 {
				r.own(s.Name)[e.To] = level + 1
			}
		}
	}
	return true
}
