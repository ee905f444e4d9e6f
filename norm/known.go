package norm

import (
	"slices"

	"reticule/api"
	"reticule/num"
	"reticule/typed"
)

// known are the expressions of a program that fits, with what they are known to be in their places; what that came of stands where it was, though nothing leads to it any more.
func known(p api.Program) []api.Expr {
	exprs := slices.Clone(p.Exprs)
	// Kids stand ahead: they are what they are known to be by then.
	for at, e := range p.Exprs {
		switch {
		case e.Kind != api.Call:
		case e.Op == api.If && areLits(exprs, e.Kids[0]):
			exprs[at] = exprs[chosen(exprs[e.Kids[0]].Num, e.Kids...)]
		case areLits(exprs, e.Kids...):
			exprs[at] = api.Expr{Kind: api.Lit, Of: kindOf(p, at), Num: done(exprs, e)}
		}
	}
	return exprs
}

// areLits tells whether all expressions at places are known.
func areLits(exprs []api.Expr, places ...int) bool {
	return !slices.ContainsFunc(places, func(at int) bool { return exprs[at].Kind != api.Lit })
}

// chosen is the kid of an If that it is.
func chosen(which api.Word, kids ...int) int {
	if num.Truth(which) {
		return kids[1]
	}
	return kids[2]
}

// done is the number of a Call whose kids are known.
func done(exprs []api.Expr, e api.Expr) api.Word {
	var l []api.Word
	for _, at := range e.Kids {
		l = append(l, exprs[at].Num)
	}
	n, _ := num.Do(e.Op, l...)
	return n
}

// kindOf is the kind of an expression of a program that fits: it is the same wherever that may stand.
func kindOf(p api.Program, at int) api.Kind {
	for w := typed.InScalar; w <= typed.InPull; w++ {
		if kind, wrong := typed.KindOf(p, at, w); wrong == api.OK {
			return kind
		}
	}
	return api.NoKind
}
