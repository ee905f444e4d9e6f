package typed

import (
	"reticule/api"
	"reticule/scope"
)

// checker looks whether a program that is sound fits itself.
type checker struct {
	program api.Program
	at      int // the place of the statement that is looked at
}

// must gives up, unless what is looked at fits.
func (c *checker) must(fits bool) {
	if !fits {
		panic(misfit{c.at})
	}
}

func (c *checker) all() {
	for at, s := range c.program.Stmts {
		c.at = at
		c.stmt(s)
	}
}

// stmt looks at a statement alone: those in it stand ahead of it, and were looked at.
func (c *checker) stmt(s api.Stmt) {
	switch s.Kind {
	case api.SetIt:
		c.is(s.E, InScalar, c.declared(s.Name, api.Scalar))
	case api.FoldIt:
		kind := c.declared(s.Name, api.Scalar)
		c.is(s.E, InNode, kind)
		c.takesIn(s.Op, kind)
		c.cond(s.Cond)
	case api.EachIt:
		for _, a := range s.Acts {
			c.act(a)
		}
	case api.BfsIt:
		c.must(c.declared(s.Name, api.OfNode) == api.Int)
		c.is(s.E, InScalar, api.Int)
	case api.IfIt, api.WhileIt, api.LoopIt:
		c.is(s.E, InScalar, api.Bool)
	}
}

func (c *checker) act(a api.Act) {
	kind := c.declared(a.Name, api.OfNode)
	switch a.Kind {
	case api.PutIt:
		c.is(a.E, InNode, kind)
	case api.PushIt:
		c.is(a.E, InPush, kind)
		c.takesIn(a.Op, kind)
	case api.PullIt:
		c.is(a.E, InPull, kind)
		c.takesIn(a.Op, kind)
	}
	c.cond(a.Cond)
}

// is looks whether an expression that stands somewhere is of a kind.
func (c *checker) is(at int, w Where, kind api.Kind) { c.must(c.kindOf(at, w) == kind) }

// cond looks whether a condition, if there is one, is a Bool: all of them stand InNode.
func (c *checker) cond(at int) {
	if at != none {
		c.is(at, InNode, api.Bool)
	}
}

// takesIn looks whether a column of a kind can take values in by an operation: what comes of two of the kind must be of it.
func (c *checker) takesIn(o api.Op, kind api.Kind) {
	c.must(c.called(o, []api.Kind{kind, kind}) == kind)
}

// declared is the kind of a name on a side.
func (c *checker) declared(name string, side api.Side) api.Kind {
	kind := scope.KindOf(c.program.Decls, api.Key{Name: name, Side: side})
	c.must(kind != api.NoKind)
	return kind
}

// kindOf is the kind of the expression at a place, that stands somewhere.
func (c *checker) kindOf(at int, w Where) api.Kind {
	e := c.program.Exprs[at]
	c.must(mayStand(e.Kind, w))
	switch e.Kind {
	case api.Lit:
		return e.Of
	case api.Var:
		return c.declared(e.Name, api.Scalar)
	case api.Own, api.Far:
		return c.declared(e.Name, api.OfNode)
	case api.Via:
		return c.declared(e.Name, api.OfEdge)
	case api.Call:
		var kinds []api.Kind
		for _, kid := range e.Kids {
			kinds = append(kinds, c.kindOf(kid, w))
		}
		return c.called(e.Op, kinds)
	}
	return api.Int
}

// called is the kind of an operation of kinds, of which there are as many as it asks for.
func (c *checker) called(o api.Op, kinds []api.Kind) api.Kind {
	switch o {
	case api.If:
		c.must(kinds[0] == api.Bool && kinds[1] == kinds[2])
		return kinds[1]
	case api.Not, api.And, api.Or:
		c.each(kinds, api.Bool)
		return api.Bool
	case api.Lt:
		c.each(kinds, api.Int)
		fallthrough // two Ints are two of one kind
	case api.Eq:
		c.must(kinds[0] == kinds[1])
		return api.Bool
	}
	c.each(kinds, api.Int)
	return api.Int
}

// each looks whether all kinds are one.
func (c *checker) each(kinds []api.Kind, one api.Kind) {
	for _, kind := range kinds {
		c.must(kind == one)
	}
}

// mayStand tells whether an expression of a kind, but for what is in it, may stand somewhere.
func mayStand(kind api.ExprKind, w Where) bool {
	switch kind {
	case api.Own, api.Id, api.Deg:
		return w == InNode || w == InPush
	case api.Via:
		return w == InPush || w == InPull
	case api.Far, api.FarId:
		return w == InPull
	}
	return true
}
