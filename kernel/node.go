package kernel

import (
	"iter"
	"slices"

	"reticule/api"
	"reticule/column"
	"reticule/eval"
	"reticule/graph"
	"reticule/num"
	"reticule/order"
)

// node is one that does acts, and what it does them over. Its walks end at the first error, which it keeps.
type node struct {
	program api.Program
	graph   *graph.Graph
	table   *column.Table
	number  int
	wrong   api.Errno
}

// value is an expression's; false, if that has an error.
func (n *node) value(e int, at eval.Place) (api.Word, bool) {
	w, wrong := eval.Value(n.program, e, n.graph, n.table, at)
	n.wrong = wrong
	return w, wrong == api.OK
}

// alone is where the node is along no edge.
func (n *node) alone() eval.Place { return eval.Place{Node: n.number, Edge: none, Far: none} }

// along yields where the node is along each of its edges that leave, or come (in), in the order of a number.
func (n *node) along(in bool, k uint64) iter.Seq[eval.Place] {
	return func(yield func(eval.Place) bool) {
		for _, i := range order.Edges(n.graph, n.number, in, k) {
			edge, _ := n.graph.Edge(i)
			far := edge.To
			if in {
				far = edge.From
			}
			if !yield(eval.Place{Node: n.number, Edge: i, Far: far}) {
				return
			}
		}
	}
}

// due yields the acts of a kind whose condition, if there is one, is true, each behind its place.
func (n *node) due(l []api.Act, kind api.ActKind) iter.Seq2[int, api.Act] {
	return func(yield func(int, api.Act) bool) {
		for i, a := range l {
			if a.Kind != kind {
				continue
			}
			if a.Cond != none {
				is, right := n.value(a.Cond, n.alone())
				if !right {
					return
				}
				if !num.Truth(is) {
					continue
				}
			}
			if !yield(i, a) {
				return
			}
		}
	}
}

// puts yields what the node puts into its own.
func (n *node) puts(l []api.Act) iter.Seq[api.Write] {
	return func(yield func(api.Write) bool) {
		for _, a := range n.due(l, api.PutIt) {
			w, right := n.value(a.E, n.alone())
			if !right || !yield(api.Write{Name: a.Name, Val: w}) {
				return
			}
		}
	}
}

// sends yields what the node sends along its edges.
func (n *node) sends(l []api.Act, k uint64) iter.Seq[api.Message] {
	return func(yield func(api.Message) bool) {
		for tag, a := range n.due(l, api.PushIt) {
			for at := range n.along(a.In, k) {
				w, right := n.value(a.E, at)
				if !right || !yield(api.Message{To: at.Far, Tag: tag, Val: w}) {
					return
				}
			}
		}
	}
}

// asked yields the acts that take in what is sent, of those of which there is a message, each behind its place, which is the tag.
func asked(l []api.Act, messages []api.Message) iter.Seq2[int, api.Act] {
	return func(yield func(int, api.Act) bool) {
		for tag, a := range l {
			has := slices.ContainsFunc(messages, func(m api.Message) bool { return m.Tag == tag })
			if a.Kind == api.PushIt && has && !yield(tag, a) {
				return
			}
		}
	}
}
