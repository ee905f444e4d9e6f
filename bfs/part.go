package bfs

import "reticule/api"

// part is a piece of a program: it puts itself, behind all in it, into the builder that it is handed, and tells its place there.
type part func(*builder) int

func nothing(*builder) int { return none }

func leaf(e api.Expr) part {
	return func(b *builder) int { return b.expr(e) }
}

func number(n api.Word) part { return leaf(api.Expr{Kind: api.Lit, Of: api.Int, Num: n}) }

func truth(n api.Word) part { return leaf(api.Expr{Kind: api.Lit, Of: api.Bool, Num: n}) }

func scalar(name string) part { return leaf(api.Expr{Kind: api.Var, Name: name}) }

func own(name string) part { return leaf(api.Expr{Kind: api.Own, Name: name}) }

func id() part { return leaf(api.Expr{Kind: api.Id}) }

func call(o api.Op, kids ...part) part {
	return func(b *builder) int {
		return b.expr(api.Expr{Kind: api.Call, Op: o, Kids: b.all(kids...)})
	}
}

func set(name string, e part) part {
	return func(b *builder) int {
		return b.stmt(api.Stmt{Kind: api.SetIt, Name: name, E: e(b), Cond: none})
	}
}

func fold(name string, o api.Op, e part) part {
	return func(b *builder) int {
		return b.stmt(api.Stmt{Kind: api.FoldIt, Name: name, Op: o, E: e(b), Cond: none})
	}
}

// each is a region of one act.
func each(a api.Act, e, cond part) part {
	return func(b *builder) int {
		a.E, a.Cond = e(b), cond(b)
		return b.stmt(api.Stmt{Kind: api.EachIt, E: none, Cond: none, Acts: []api.Act{a}})
	}
}

func put(name string, e, cond part) part {
	return each(api.Act{Kind: api.PutIt, Name: name}, e, cond)
}

func push(name string, o api.Op, e, cond part) part {
	return each(api.Act{Kind: api.PushIt, Name: name, Op: o}, e, cond)
}

func while(e part, then ...part) part {
	return func(b *builder) int {
		return b.stmt(api.Stmt{Kind: api.WhileIt, E: e(b), Cond: none, Then: b.all(then...)})
	}
}
