package flip

import (
	"slices"

	"reticule/api"
	"reticule/clash"
	"reticule/prog"
)

// none is the place of an expression where there is none.
const none = -1

// Split is a program whose regions have one act each, as far as that means the same.
func Split(p api.Program) (api.Program, api.Errno) {
	if !prog.Sound(p) {
		return api.Program{}, api.ErrForm
	}
	q := copied(p)
	stmts := q.Stmts
	q.Stmts = nil
	became := make([][]int, len(stmts)) // of each statement the places of those that it is now
	for at, s := range stmts {
		// All in it stand ahead of it, and are what they become by now.
		s.Then, s.Else = together(became, s.Then), together(became, s.Else)
		for _, piece := range pieces(p, s) {
			became[at] = append(became[at], len(q.Stmts))
			q.Stmts = append(q.Stmts, piece)
		}
	}
	q.Main = together(became, q.Main)
	if !prog.Sound(q) {
		return api.Program{}, api.ErrSpace
	}
	return q, api.OK
}

// together are the rows at places, one behind the other.
func together(rows [][]int, places []int) []int {
	var all []int
	for _, at := range places {
		all = append(all, rows[at]...)
	}
	return all
}

// pieces are the regions of one act each that mean the same as a statement; itself, where there are none.
func pieces(p api.Program, s api.Stmt) []api.Stmt {
	if s.Kind != api.EachIt || tied(p, s.Acts) {
		return []api.Stmt{s}
	}
	var all []api.Stmt
	for _, a := range s.Acts {
		all = append(all, api.Stmt{Kind: api.EachIt, E: none, Cond: none, Acts: []api.Act{a}})
	}
	return all
}

// tied tells whether an act reads what one ahead of it writes.
func tied(p api.Program, l []api.Act) bool {
	for i := range l {
		written := clash.Writes(l[:i])
		if slices.ContainsFunc(clash.Reads(p, l[i:i+1]), func(name string) bool { return slices.Contains(written, name) }) {
			return true
		}
	}
	return false
}
