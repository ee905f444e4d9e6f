package den

import (
	"reticule/api"
	"reticule/column"
	"reticule/num"
)

// mayBeDone tells whether an act can be of a program with so many expressions.
func mayBeDone(a api.Act, exprs int) bool {
	if a.E < 0 || a.E >= exprs {
		return false
	}
	_, reduces := num.Reduces(a.Op)
	mayHaveCond := none <= a.Cond && a.Cond < exprs
	switch a.Kind {
	case api.PutIt:
		return mayHaveCond
	case api.PushIt:
		return mayHaveCond && reduces
	case api.PullIt:
		return a.Cond == none && reduces
	}
	return false
}

// region does acts: its scene stays as it is ahead of them, and what they write stands behind.
type region struct {
	scene
	behind *column.Table
}

func (r region) all(l []api.Act) {
	for _, a := range l {
		for v := range r.graph.N() {
			if r.holds(a.Cond, alone(v)) {
				r.act(a, v)
			}
		}
	}
}

// act is what one node does.
func (r region) act(a api.Act, v int) {
	own := nodeKey(a.Name)
	if a.Kind == api.PutIt {
		must(r.behind.Set(own, v, r.value(a.E, alone(v))))
		return
	}
	for at := range r.along(v, a.In) {
		w := r.value(a.E, at)
		if a.Kind == api.PushIt {
			takeIn(r.behind, own, at.Far, a.Op, w)
		} else {
			takeIn(r.behind, own, at.Node, a.Op, w)
		}
	}
}
