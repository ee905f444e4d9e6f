package proof

import (
	"math"

	"reticule/api"
)

// Sturdy is the text of a program that fits itself, and does not clash, till one of Spoilers is done to it.
const Sturdy = "(int i) (bool b) (nint ni) (nbool nb) (eint ei) (ebool eb) (set i (+ 1 i)) (each (put ni (own ni)) (push nb or out b)) (while b (set i 1))"

// Spoilers are what makes a program out of Sturdy unsound, and what it is.
func Spoilers() map[string]func(*api.Program) {
	return map[string]func(*api.Program){
		"a statement twice in Main":         func(p *api.Program) { p.Main = append(p.Main, 0) },
		"no Main":                           func(p *api.Program) { p.Main = nil },
		"a place of Main below 0":           func(p *api.Program) { p.Main[0] = -1 },
		"a place of Main behind the end":    func(p *api.Program) { p.Main[0] = math.MaxInt },
		"a declaration of no Kind":          func(p *api.Program) { p.Decls[0].Kind = api.NoKind },
		"a declaration of a Kind 3":         func(p *api.Program) { p.Decls[0].Kind = 3 },
		"a declaration of no Side":          func(p *api.Program) { p.Decls[0].Side = api.NoSide },
		"a declaration of a Side 4":         func(p *api.Program) { p.Decls[0].Side = 4 },
		"a declaration without a Name":      func(p *api.Program) { p.Decls[0].Name = "" },
		"a declaration of a wrong Name":     func(p *api.Program) { p.Decls[0].Name = "A" },
		"too many declarations":             func(p *api.Program) { p.Decls = append(p.Decls, make([]api.Decl, 30)...) },
		"a literal of no Kind":              func(p *api.Program) { p.Exprs[0].Of = api.NoKind },
		"a literal of a Kind 3":             func(p *api.Program) { p.Exprs[0].Of = 3 },
		"a truth that is 2":                 func(p *api.Program) { p.Exprs[0].Of, p.Exprs[0].Num = api.Bool, 2 },
		"an expression of no Kind":          func(p *api.Program) { p.Exprs[0].Kind = api.NoExpr },
		"an expression of a Kind 11":        func(p *api.Program) { p.Exprs[0].Kind = 11 },
		"an expression of a Kind 255":       func(p *api.Program) { p.Exprs[0].Kind = 255 },
		"a call of no Op":                   func(p *api.Program) { p.Exprs[2].Op = api.NoOp },
		"a call of an Op 20":                func(p *api.Program) { p.Exprs[2].Op = api.LastOp + 1 },
		"a call of an Op 255":               func(p *api.Program) { p.Exprs[2].Op = 255 },
		"a call of too many":                func(p *api.Program) { p.Exprs[2].Op = api.Not },
		"a call of too few":                 func(p *api.Program) { p.Exprs[2].Op = api.If },
		"a call without kids":               func(p *api.Program) { p.Exprs[2].Kids = nil },
		"a call of itself":                  func(p *api.Program) { p.Exprs[2].Kids = []int{2, 2} },
		"a call of places that are none":    func(p *api.Program) { p.Exprs[2].Kids = []int{-1, math.MaxInt} },
		"an expression that nothing has":    func(p *api.Program) { p.Exprs = append(p.Exprs, api.Expr{Kind: api.Count}) },
		"no expressions":                    func(p *api.Program) { p.Exprs = nil },
		"no statements":                     func(p *api.Program) { p.Stmts = nil },
		"a statement of no Kind":            func(p *api.Program) { p.Stmts[0].Kind = api.NoStmt },
		"a statement of a Kind 8":           func(p *api.Program) { p.Stmts[0].Kind = 8 },
		"a statement without E":             func(p *api.Program) { p.Stmts[0].E = -1 },
		"a statement of an E that is none":  func(p *api.Program) { p.Stmts[0].E = math.MinInt },
		"a statement with a wrong Cond":     func(p *api.Program) { p.Stmts[0].Cond = 0 },
		"a statement in itself":             func(p *api.Program) { p.Stmts[3].Then = []int{3} },
		"a region without acts":             func(p *api.Program) { p.Stmts[1].Acts = nil },
		"a region of too many acts":         func(p *api.Program) { p.Stmts[1].Acts = make([]api.Act, 7) },
		"an act of no Kind":                 func(p *api.Program) { p.Stmts[1].Acts[0].Kind = api.NoAct },
		"an act of a Kind 4":                func(p *api.Program) { p.Stmts[1].Acts[0].Kind = 4 },
		"an act that puts by an Op":         func(p *api.Program) { p.Stmts[1].Acts[0].Op = api.Add },
		"an act of an Op that takes not in": func(p *api.Program) { p.Stmts[1].Acts[1].Op = api.Sub },
		"an act without E":                  func(p *api.Program) { p.Stmts[1].Acts[1].E = -1 },
		"an act whose Cond is none":         func(p *api.Program) { p.Stmts[1].Acts[1].Cond = 99 },
	}
}
