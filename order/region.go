package order

import (
	"reticule/api"
	"reticule/column"
	"reticule/eval"
	"reticule/graph"
	"reticule/num"
)

// scene is what expressions are looked at over.
type scene struct {
	program api.Program
	graph   *graph.Graph
	table   *column.Table
}

func (s scene) value(e int, at eval.Place) (api.Word, api.Errno) {
	return eval.Value(s.program, e, s.graph, s.table, at)
}

// alone is where a node is along no edge.
func alone(v int) eval.Place { return eval.Place{Node: v, Edge: none, Far: none} }

// along is where a node is along one of its edges that leave, or come (in).
func (s scene) along(v, edge int, in bool) eval.Place {
	e, _ := s.graph.Edge(edge)
	if in {
		return eval.Place{Node: v, Edge: edge, Far: e.From}
	}
	return eval.Place{Node: v, Edge: edge, Far: e.To}
}

// takeIn lets a value, as it is by now, take another one in.
func takeIn(t *column.Table, k api.Key, i int, o api.Op, w api.Word) api.Errno {
	old, wrong := t.Get(k, i)
	if wrong != api.OK {
		return wrong
	}
	taken, wrong := num.Do(o, old, w)
	if wrong != api.OK {
		return wrong
	}
	return t.Set(k, i, taken)
}

func scalarKey(name string) api.Key { return api.Key{Name: name, Side: api.Scalar} }

func nodeKey(name string) api.Key { return api.Key{Name: name, Side: api.OfNode} }

// region does acts: its scene stays as it is ahead of them, and what they write stands behind.
type region struct {
	scene
	behind *column.Table
	seed   uint64
}

func (r region) all(l []api.Act) api.Errno {
	for _, i := range places(len(l), r.seed) {
		for _, v := range places(r.graph.N(), r.seed) {
			if wrong := r.act(l[i], v); wrong != api.OK {
				return wrong
			}
		}
	}
	return api.OK
}

// act is what one node does, if its condition is true.
func (r region) act(a api.Act, v int) api.Errno {
	if a.Cond != none {
		is, wrong := r.value(a.Cond, alone(v))
		if wrong != api.OK || !num.Truth(is) {
			return wrong
		}
	}
	if a.Kind == api.PutIt {
		return r.put(a, v)
	}
	for _, edge := range Edges(r.graph, v, a.In, r.seed) {
		if wrong := r.hand(a, r.along(v, edge, a.In)); wrong != api.OK {
			return wrong
		}
	}
	return api.OK
}

func (r region) put(a api.Act, v int) api.Errno {
	w, wrong := r.value(a.E, alone(v))
	if wrong != api.OK {
		return wrong
	}
	return r.behind.Set(nodeKey(a.Name), v, w)
}

// hand takes a value in along one edge, at the end to which the act leads.
func (r region) hand(a api.Act, at eval.Place) api.Errno {
	w, wrong := r.value(a.E, at)
	if wrong != api.OK {
		return wrong
	}
	to := at.Far
	if a.Kind == api.PullIt {
		to = at.Node
	}
	return takeIn(r.behind, nodeKey(a.Name), to, a.Op, w)
}
