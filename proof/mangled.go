package proof

import (
	"math"
	"strings"

	"reticule/api"
)

// Mangled does f with what comes of a program by another number, or name, at one place of its lists, or by one place more or fewer.
func Mangled(p api.Program, f func(api.Program)) {
	for _, n := range []int{-1, 0, 1, 2, 3, 5, 8, 12, 255, math.MinInt, math.MaxInt, -1 << 40} {
		for i := range knobs(&api.Program{}, p) {
			q := Program(p)
			knobs(&q, p)[i](n)
			f(q)
		}
	}
}

// knobs are what may be done to a program by a number; what there is to be done hangs on another one, that has as much of all.
func knobs(q *api.Program, like api.Program) []func(int) {
	all := []func(int){func(n int) { q.Main = append(q.Main, n) }, func(int) { q.Exprs = fewer(q.Exprs) }, func(int) { q.Stmts = fewer(q.Stmts) }, func(int) { q.Main = fewer(q.Main) }}
	for i := range like.Main {
		all = append(all, func(n int) { q.Main[i] = n })
	}
	for i := range like.Decls {
		all = append(all, func(n int) { q.Decls[i].Side = api.Side(n) }, func(n int) { q.Decls[i].Kind = api.Kind(n) }, func(n int) { q.Decls[i].Name = oddName(n) })
	}
	for i := range like.Exprs {
		all = append(all,
			func(n int) { q.Exprs[i].Kind = api.ExprKind(n) }, func(n int) { q.Exprs[i].Of = api.Kind(n) }, func(n int) { q.Exprs[i].Op = api.Op(n) },
			func(n int) { q.Exprs[i].Num = api.Word(n) }, func(n int) { q.Exprs[i].Name = oddName(n) },
			func(n int) { q.Exprs[i].Kids = append(q.Exprs[i].Kids, n) }, func(int) { q.Exprs[i].Kids = fewer(q.Exprs[i].Kids) })
		for j := range like.Exprs[i].Kids {
			all = append(all, func(n int) { q.Exprs[i].Kids[j] = n })
		}
	}
	for i, s := range like.Stmts {
		all = append(all,
			func(n int) { q.Stmts[i].Kind = api.StmtKind(n) }, func(n int) { q.Stmts[i].Op = api.Op(n) }, func(n int) { q.Stmts[i].Name = oddName(n) },
			func(n int) { q.Stmts[i].E = n }, func(n int) { q.Stmts[i].Cond = n },
			func(n int) { q.Stmts[i].Then = append(q.Stmts[i].Then, n) }, func(n int) { q.Stmts[i].Else = append(q.Stmts[i].Else, n) },
			func(int) { q.Stmts[i].Then = fewer(q.Stmts[i].Then) }, func(int) { q.Stmts[i].Acts = fewer(q.Stmts[i].Acts) })
		for j := range s.Then {
			all = append(all, func(n int) { q.Stmts[i].Then[j] = n })
		}
		for j := range s.Acts {
			all = append(all,
				func(n int) { q.Stmts[i].Acts[j].Kind = api.ActKind(n) }, func(n int) { q.Stmts[i].Acts[j].Op = api.Op(n) }, func(n int) { q.Stmts[i].Acts[j].In = n > 0 },
				func(n int) { q.Stmts[i].Acts[j].Name = oddName(n) }, func(n int) { q.Stmts[i].Acts[j].E = n }, func(n int) { q.Stmts[i].Acts[j].Cond = n })
		}
	}
	return all
}

func fewer[T any](l []T) []T { return l[:max(0, len(l)-1)] }

func oddName(n int) string {
	return []string{"", "q0", "true", "A", "a b", "\xff", "i", strings.Repeat("x", 9)}[uint(n)%8]
}
