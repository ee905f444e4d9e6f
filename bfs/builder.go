package bfs

import "reticule/api"

// none is the place of an expression where there is none.
const none = -1

// builder puts a program together as it would be read: what is put into it stands behind all in it.
type builder struct{ program api.Program }

// tooMuch is what a builder gives up with.
type tooMuch struct{}

// built is the program that a function fills a builder with; false, if that is more than any program has.
func built(fill func(*builder)) (p api.Program, is bool) {
	defer func() {
		switch thrown := recover().(type) {
		case nil, tooMuch:
		default:
			panic(thrown) // it is no fault of what was handed in
		}
	}()
	var b builder
	fill(&b)
	return b.program, true
}

// mustFit gives up, if there is more than any program has: each expression, and each statement, is a form or more.
func (b *builder) mustFit() {
	if len(b.program.Decls) > api.MaxNames || len(b.program.Exprs)+len(b.program.Stmts) > api.MaxForms {
		panic(tooMuch{})
	}
}

func (b *builder) declare(d api.Decl) {
	b.program.Decls = append(b.program.Decls, d)
	b.mustFit()
}

func (b *builder) expr(e api.Expr) int {
	b.program.Exprs = append(b.program.Exprs, e)
	b.mustFit()
	return len(b.program.Exprs) - 1
}

func (b *builder) stmt(s api.Stmt) int {
	b.program.Stmts = append(b.program.Stmts, s)
	b.mustFit()
	return len(b.program.Stmts) - 1
}

// all puts parts, one behind the other, and are their places.
func (b *builder) all(parts ...part) []int {
	var places []int
	for _, one := range parts {
		places = append(places, one(b))
	}
	return places
}
