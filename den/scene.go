package den

import (
	"iter"

	"reticule/api"
	"reticule/column"
	"reticule/eval"
	"reticule/graph"
	"reticule/num"
)

// none is the place of an expression, an edge, or a node, where there is none.
const none = -1

// fault is what doing acts and statements gives up with.
type fault struct{ errno api.Errno }

// must gives up, if there is an error.
func must(e api.Errno) {
	if e != api.OK {
		panic(fault{e})
	}
}

// caught does f, and is the error with which that gave up.
func caught(f func()) (wrong api.Errno) {
	defer func() {
		if thrown := recover(); thrown != nil {
			wrong = thrown.(fault).errno // what is no fault of what was handed in goes on as a panic
		}
	}()
	f()
	return api.OK
}

// scene is what expressions are looked at over.
type scene struct {
	program api.Program
	graph   *graph.Graph
	table   *column.Table
}

func (s scene) value(e int, at eval.Place) api.Word {
	w, wrong := eval.Value(s.program, e, s.graph, s.table, at)
	must(wrong)
	return w
}

// holds tells whether a condition, if there is one, is true.
func (s scene) holds(cond int, at eval.Place) bool {
	return cond == none || num.Truth(s.value(cond, at))
}

// alone is where a node is along no edge.
func alone(v int) eval.Place { return eval.Place{Node: v, Edge: none, Far: none} }

// along yields where a node is along each of its edges that leave, or come (in).
func (s scene) along(v int, in bool) iter.Seq[eval.Place] {
	return func(yield func(eval.Place) bool) {
		list := s.graph.Out(v)
		if in {
			list = s.graph.In(v)
		}
		for _, i := range list {
			edge, _ := s.graph.Edge(i)
			far := edge.To
			if in {
				far = edge.From
			}
			if !yield(eval.Place{Node: v, Edge: i, Far: far}) {
				return
			}
		}
	}
}

// takeIn lets a value, as it is by now, take another one in.
func takeIn(t *column.Table, k api.Key, i int, o api.Op, w api.Word) {
	old, wrong := t.Get(k, i)
	must(wrong)
	taken, wrong := num.Do(o, old, w)
	must(wrong)
	must(t.Set(k, i, taken))
}

func scalarKey(name string) api.Key { return api.Key{Name: name, Side: api.Scalar} }

func nodeKey(name string) api.Key { return api.Key{Name: name, Side: api.OfNode} }
