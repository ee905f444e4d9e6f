package scope

import (
	"cmp"
	"slices"
	"strings"

	"reticule/api"
	"reticule/prog"
)

// eachNamed hands all that a program names to a function: where the name stands, whose side it is of, and whether the program changes its column there.
func eachNamed(p api.Program, hand func(name *string, side api.Side, changes bool)) {
	for i := range p.Exprs {
		name := &p.Exprs[i].Name
		switch p.Exprs[i].Kind {
		case api.Var:
			hand(name, api.Scalar, false)
		case api.Own, api.Far:
			hand(name, api.OfNode, false)
		case api.Via:
			hand(name, api.OfEdge, false)
		}
	}
	for i := range p.Stmts {
		name := &p.Stmts[i].Name
		switch p.Stmts[i].Kind {
		case api.SetIt, api.FoldIt:
			hand(name, api.Scalar, true)
		case api.BfsIt:
			hand(name, api.OfNode, true)
		}
		for j := range p.Stmts[i].Acts {
			hand(&p.Stmts[i].Acts[j].Name, api.OfNode, true)
		}
	}
}

// named are the keys that a sound program names where it is asked for, and how often.
func named(p api.Program, asked func(changes bool) bool) map[api.Key]int {
	keys := map[api.Key]int{}
	if !prog.Sound(p) {
		return keys
	}
	eachNamed(p, func(name *string, side api.Side, changes bool) {
		if asked(changes) {
			keys[api.Key{Name: strings.Clone(*name), Side: side}]++
		}
	})
	return keys
}

// sorted are keys by side, then by name.
func sorted(keys map[api.Key]int) []api.Key {
	var l []api.Key
	for k := range keys {
		l = append(l, k)
	}
	slices.SortFunc(l, func(a, b api.Key) int {
		return cmp.Or(cmp.Compare(a.Side, b.Side), cmp.Compare(a.Name, b.Name))
	})
	return l
}

// Renamed is a program one of whose columns has another name.
func Renamed(p api.Program, k api.Key, to string) (api.Program, api.Errno) {
	l, top, e := prog.Write(p)
	if e != api.OK {
		return api.Program{}, api.ErrForm
	}
	if KindOf(p.Decls, k) == api.NoKind {
		return api.Program{}, api.ErrNoent
	}
	if KindOf(p.Decls, api.Key{Name: to, Side: k.Side}) != api.NoKind {
		return api.Program{}, api.ErrExist
	}
	q, _, _ := prog.Read(l, top) // the same program, in memory of its own
	rename(q, k, strings.Clone(to))
	if !prog.Sound(q) {
		return api.Program{}, api.ErrForm
	}
	return q, api.OK
}

func rename(p api.Program, k api.Key, to string) {
	change := func(name *string, side api.Side, _ bool) {
		if *name == k.Name && side == k.Side {
			*name = to
		}
	}
	for i := range p.Decls {
		change(&p.Decls[i].Name, p.Decls[i].Side, false)
	}
	eachNamed(p, change)
}
