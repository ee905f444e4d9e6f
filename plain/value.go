package plain

import (
	"reticule/api"
	"reticule/num"
)

// Value is an expression's at a node, along an edge, with another node at its end (-1: none).
func (w World) Value(p api.Program, e, node, edge, far int) (api.Word, api.Errno) {
	x := p.Exprs[e]
	switch x.Kind {
	case api.Lit:
		return x.Num, api.OK
	case api.Var:
		return w.get(x.Name, api.Scalar, 0)
	case api.Own:
		return w.get(x.Name, api.OfNode, node)
	case api.Far:
		return w.get(x.Name, api.OfNode, far)
	case api.Via:
		return w.get(x.Name, api.OfEdge, edge)
	case api.Id:
		return api.Word(node), w.isNode(node)
	case api.FarId:
		return api.Word(far), w.isNode(far)
	case api.Deg:
		many := api.Word(0)
		for _, edge := range w.Edges {
			if x.Num == 0 && edge.From == node || x.Num == 1 && edge.To == node {
				many++
			}
		}
		return many, w.isNode(node)
	case api.Count:
		return api.Word(w.Nodes), api.OK
	}
	var kids []api.Word
	for _, kid := range x.Kids {
		v, wrong := w.Value(p, kid, node, edge, far)
		if wrong != api.OK {
			return 0, wrong
		}
		kids = append(kids, v)
	}
	return num.Do(x.Op, kids...)
}

func (w World) isNode(v int) api.Errno {
	if v < 0 || v >= w.Nodes {
		return api.ErrRange
	}
	return api.OK
}

func (w World) get(name string, side api.Side, i int) (api.Word, api.Errno) {
	c, there := w.Columns[api.Key{Name: name, Side: side}]
	if !there {
		return 0, api.ErrNoent
	}
	if i < 0 || i >= len(c.Vals) {
		return 0, api.ErrRange
	}
	return c.Vals[i], api.OK
}

func (w World) set(name string, i int, v api.Word) api.Errno {
	c, there := w.Columns[api.Key{Name: name, Side: api.OfNode}]
	if !there {
		return api.ErrNoent
	}
	if i < 0 || i >= len(c.Vals) {
		return api.ErrRange
	}
	if c.Kind == api.Bool && v != 0 && v != 1 {
		return api.ErrForm
	}
	c.Vals[i] = v
	return api.OK
}

// other is the end of an edge that is not v's, where v has it among those that leave, or come (in); false, if it has not.
func other(e api.Edge, v int, in bool) (int, bool) {
	if in {
		return e.From, e.To == v
	}
	return e.To, e.From == v
}
