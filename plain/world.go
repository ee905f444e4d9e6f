// Package plain is what expressions and programs come to, reckoned plainly: what tests of several layers are held against. No layer takes it in.
package plain

import (
	"fmt"
	"maps"
	"slices"
	"strings"

	"reticule/api"
	"reticule/column"
	"reticule/graph"
)

// Column is a kind, and values.
type Column struct {
	Kind api.Kind
	Vals []api.Word
}

// World is a graph, and columns.
type World struct {
	Nodes   int
	Edges   []api.Edge
	Columns map[api.Key]Column
}

// Graph is the world's.
func (w World) Graph() *graph.Graph { return graph.New(w.Nodes, w.Edges) }

// Table are the world's columns.
func (w World) Table() *column.Table {
	t := column.New(w.Nodes, len(w.Edges))
	for k, c := range w.Columns {
		if t.Declare(k, c.Kind) != api.OK || t.Load(k, c.Vals) != api.OK {
			panic("a column that can not be: " + k.Name)
		}
	}
	return t
}

// Behind is the world with other columns.
func (w World) Behind(t *column.Table) World {
	columns := map[api.Key]Column{}
	for _, k := range t.Keys() {
		columns[k] = Column{t.KindOf(k), t.List(k)}
	}
	return World{w.Nodes, w.Edges, columns}
}

// Same tells whether worlds are.
func (w World) Same(o World) bool {
	return w.Nodes == o.Nodes && slices.Equal(w.Edges, o.Edges) && maps.EqualFunc(w.Columns, o.Columns, func(a, b Column) bool {
		return a.Kind == b.Kind && slices.Equal(a.Vals, b.Vals)
	})
}

// Fork is another world with the same columns.
func (w World) Fork() World {
	columns := map[api.Key]Column{}
	for k, c := range w.Columns {
		columns[k] = Column{c.Kind, slices.Clone(c.Vals)}
	}
	return World{w.Nodes, w.Edges, columns}
}

// With is the world with one more column.
func (w World) With(name string, side api.Side, kind api.Kind, vals ...api.Word) World {
	w = w.Fork()
	w.Columns[api.Key{Name: name, Side: side}] = Column{kind, vals}
	return w
}

// Of is a world of nodes and edges (two digits each) without columns.
func Of(nodes int, edges ...string) World {
	w := World{Nodes: nodes, Columns: map[api.Key]Column{}}
	for _, e := range edges {
		w.Edges = append(w.Edges, api.Edge{From: int(e[0] - '0'), To: int(e[1] - '0')})
	}
	return w
}

// Shapes are worlds without columns: edges from a node to itself, twice between two nodes, nodes that nothing reaches, as many of all as there may be.
func Shapes() []World {
	most := Of(api.MaxNodes)
	for i := range api.MaxEdges {
		most.Edges = append(most.Edges, api.Edge{From: (i*5 + i/9) % api.MaxNodes, To: (i*7 + 1) % api.MaxNodes})
	}
	return []World{
		Of(1), Of(1, "00"), Of(1, "00", "00"), Of(2), Of(2, "01"), Of(2, "10", "01", "10", "11"),
		Of(3, "01", "12"), Of(3, "20", "21", "11", "20"), Of(4, "01", "12", "23", "30", "02"),
		Of(5, "40", "04", "31", "31", "13", "22"), Of(6, "01", "02", "13", "23", "34", "45", "50"), most,
	}
}

// Filled are worlds of all Shapes with the columns of a program's declarations, whose values hang on a number.
func Filled(l []api.Decl, many int) []World {
	var all []World
	for _, shape := range Shapes() {
		for k := range many {
			all = append(all, shape.Fill(l, uint64(k)))
		}
	}
	return all
}

// Fill is the world with the columns of a program's declarations, whose values hang on a number.
func (w World) Fill(l []api.Decl, k uint64) World {
	w = w.Fork()
	long := map[api.Side]int{api.Scalar: 1, api.OfNode: w.Nodes, api.OfEdge: len(w.Edges)}
	for i, d := range l {
		c := Column{Kind: d.Kind}
		for j := range long[d.Side] {
			c.Vals = append(c.Vals, value(d.Kind, mixed(k, uint64(i), uint64(j))))
		}
		w.Columns[api.Key{Name: d.Name, Side: d.Side}] = c
	}
	return w
}

// Zeros is the world with columns of zeros for all declarations of which it has no column.
func (w World) Zeros(l []api.Decl) World {
	w = w.Fork()
	long := map[api.Side]int{api.Scalar: 1, api.OfNode: w.Nodes, api.OfEdge: len(w.Edges)}
	for _, d := range l {
		k := api.Key{Name: d.Name, Side: d.Side}
		if _, there := w.Columns[k]; !there {
			w.Columns[k] = Column{Kind: d.Kind, Vals: make([]api.Word, long[d.Side])}
		}
	}
	return w
}

// Tell are columns as text: a=5 of a scalar, a[1 2] of nodes, a{1 2} of edges.
func Tell(t *column.Table) string {
	var l []string
	for _, k := range t.Keys() {
		list := strings.Trim(fmt.Sprint(t.List(k)), "[]")
		l = append(l, map[api.Side]string{api.Scalar: k.Name + "=" + list, api.OfNode: k.Name + "[" + list + "]", api.OfEdge: k.Name + "{" + list + "}"}[k.Side])
	}
	return strings.Join(l, " ")
}

// mixed is a number that hangs on all bits of others.
func mixed(l ...uint64) uint64 {
	var mix uint64 = 14695981039346656037
	for _, n := range l {
		mix = (mix ^ n) * 1099511628211
		mix ^= mix >> 29
	}
	return mix
}

// value is a value of a kind: of numbers mostly small ones, some of them great.
func value(kind api.Kind, mix uint64) api.Word {
	few := []api.Word{0, 1, 2, 3, -1, 5, -7, 12, 1 << 62, -1 << 63, 1<<63 - 1, 300}
	if kind == api.Bool {
		return api.Word(mix >> 7 & 1)
	}
	return few[mix>>7%uint64(len(few))]
}
