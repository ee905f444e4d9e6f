package eval

import (
	"iter"

	"reticule/api"
	"reticule/column"
	"reticule/graph"
	"reticule/num"
)

// looker looks an expression up that has no others in it.
type looker func(api.Expr) (api.Word, api.Errno)

// value is that of the expression at a place, of which a looker looks up what is no number and no call.
func value(l []api.Expr, at int, look looker) (api.Word, api.Errno) {
	e := l[at]
	switch e.Kind {
	case api.Lit:
		return e.Num, api.OK
	case api.Call:
		kids, wrong := values(l, look, e.Kids...)
		if wrong != api.OK {
			return 0, wrong
		}
		return num.Do(e.Op, kids...)
	}
	return look(e)
}

// holds tells whether a condition, if there is one, is true; or the error.
func holds(l []api.Expr, cond int, look looker) (bool, api.Errno) {
	if cond == none {
		return true, api.OK
	}
	w, wrong := value(l, cond, look)
	return num.Truth(w), wrong
}

// values are those of the expressions at places, from the left; or the first error.
func values(l []api.Expr, look looker, places ...int) ([]api.Word, api.Errno) {
	list := make([]api.Word, 0, len(places))
	for _, at := range places {
		w, wrong := value(l, at, look)
		if wrong != api.OK {
			return nil, wrong
		}
		list = append(list, w)
	}
	return list, api.OK
}

// valuesAt are those of one expression, seen from each place; or the first error.
func valuesAt(places iter.Seq[Place], l []api.Expr, e int, s sight) ([]api.Word, api.Errno) {
	var list []api.Word
	for s.at = range places {
		w, wrong := value(l, e, s.look)
		if wrong != api.OK {
			return nil, wrong
		}
		list = append(list, w)
	}
	return list, api.OK
}

// nodes yields each node alone, rising.
func nodes(g *graph.Graph) iter.Seq[Place] {
	return func(yield func(Place) bool) {
		for v := range g.N() {
			if !yield(Place{Node: v, Edge: none, Far: none}) {
				return
			}
		}
	}
}

// edges yields each node, rising, along each of its edges that leave, or come (in).
func edges(g *graph.Graph, in bool) iter.Seq[Place] {
	return func(yield func(Place) bool) {
		for v := range g.N() {
			list := g.Out(v)
			if in {
				list = g.In(v)
			}
			for _, i := range list {
				edge, _ := g.Edge(i)
				far := edge.To
				if in {
					far = edge.From
				}
				if !yield(Place{Node: v, Edge: i, Far: far}) {
					return
				}
			}
		}
	}
}

// sight is what is seen from a place: the graph, and the columns.
type sight struct {
	graph *graph.Graph
	table *column.Table
	at    Place
}

func (s sight) look(e api.Expr) (api.Word, api.Errno) {
	switch e.Kind {
	case api.Var:
		return s.get(e.Name, api.Scalar, 0)
	case api.Own:
		return s.get(e.Name, api.OfNode, s.at.Node)
	case api.Far:
		return s.get(e.Name, api.OfNode, s.at.Far)
	case api.Via:
		return s.get(e.Name, api.OfEdge, s.at.Edge)
	case api.Id:
		return s.ofNode(s.at.Node, s.at.Node)
	case api.FarId:
		return s.ofNode(s.at.Far, s.at.Far)
	case api.Deg:
		return s.ofNode(s.at.Node, s.graph.Degree(s.at.Node, e.Num == 1))
	}
	return api.Word(s.graph.N()), api.OK // Count: there is no other kind
}

func (s sight) get(name string, side api.Side, i int) (api.Word, api.Errno) {
	return s.table.Get(api.Key{Name: name, Side: side}, i)
}

// ofNode is a number that tells of v, as far as that is a node.
func (s sight) ofNode(v, number int) (api.Word, api.Errno) {
	if v < 0 || v >= s.graph.N() {
		return 0, api.ErrRange
	}
	return api.Word(number), api.OK
}

// nothing is a looker that sees nothing at all.
func nothing(api.Expr) (api.Word, api.Errno) { return 0, api.ErrNoent }
