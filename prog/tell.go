package prog

import (
	"reticule/api"
	"reticule/num"
)

// teller puts what a program says, token by token, as far as it is one that can be read: so it goes through all lists as they would be read, and counts.
type teller struct {
	program      api.Program
	exprs, stmts int // how many were gone through
	forms, deep  int // how many were put; how many brackets stand around
	put          func(api.Token)
}

// must gives up, unless the program is right.
func (t *teller) must(right bool) {
	if !right {
		panic(fault{0, api.ErrForm})
	}
}

// form puts the first token of a form. That forms are counted ahead of what is in them also ends programs that never would.
func (t *teller) form(first api.Token) {
	t.forms++
	t.must(t.forms <= api.MaxForms)
	t.put(first)
}

func (t *teller) word(text string) { t.form(api.Token{Kind: api.Name, Text: text}) }

func (t *teller) name(text string) {
	t.must(isName(text))
	t.word(text)
}

// bracket puts what inside puts between brackets.
func (t *teller) bracket(inside func()) {
	t.deep++
	t.must(t.deep <= api.MaxDepth)
	t.form(api.Token{Kind: api.Open})
	inside()
	t.put(api.Token{Kind: api.Close})
	t.deep--
}

func (t *teller) all() {
	t.must(len(t.program.Decls) <= api.MaxNames)
	for _, d := range t.program.Decls {
		t.shaped(declShape(d.Side, d.Kind), content{name: d.Name, e: none, cond: none})
	}
	t.rows(t.program.Main)
	t.must(t.exprs == len(t.program.Exprs) && t.stmts == len(t.program.Stmts))
}

func (t *teller) rows(places []int) {
	for _, at := range places {
		t.stmt(at)
	}
}

func (t *teller) stmt(at int) {
	t.must(0 <= at && at < len(t.program.Stmts))
	s := t.program.Stmts[at]
	t.shaped(stmtShape(s.Kind), content{name: s.Name, op: s.Op, e: s.E, cond: s.Cond, acts: s.Acts, then: s.Then, other: s.Else})
	t.must(at == t.stmts)
	t.stmts++
}

func (t *teller) act(a api.Act) {
	t.shaped(actShape(a.Kind), content{name: a.Name, op: a.Op, in: a.In, e: a.E, cond: a.Cond})
}

func (t *teller) expr(at int) {
	t.must(0 <= at && at < len(t.program.Exprs))
	e := t.program.Exprs[at]
	plain := api.Expr{Kind: e.Kind}
	switch e.Kind {
	case api.Lit:
		plain.Of, plain.Num = e.Of, e.Num
		t.literal(e.Of, e.Num)
	case api.Var:
		plain.Name = e.Name
		t.must(e.Name != yes && e.Name != no)
		t.name(e.Name)
	case api.Call:
		plain.Op, plain.Kids = e.Op, e.Kids
		t.call(e.Op, e.Kids)
	default:
		plain.Name, plain.Num = e.Name, asWord(e.Num == 1)
		t.shaped(exprShape(e.Kind), content{name: e.Name, in: e.Num == 1, e: none, cond: none})
	}
	t.must(sameExpr(e, plain) && at == t.exprs)
	t.exprs++
}

func (t *teller) literal(of api.Kind, n api.Word) {
	switch {
	case of == api.Int:
		t.form(api.Token{Kind: api.Number, Num: n})
	case of == api.Bool && n == 1:
		t.word(yes)
	default:
		t.must(of == api.Bool && n == 0)
		t.word(no)
	}
}

func (t *teller) call(o api.Op, kids []int) {
	t.must(num.Arity(o) > 0 && len(kids) == num.Arity(o))
	t.bracket(func() {
		t.word(OpWord(o))
		for _, kid := range kids {
			t.expr(kid)
		}
	})
}

// shaped puts a bracket of a shape.
func (t *teller) shaped(s shape, c content) {
	t.must(s.word != "" && isBare(s, c))
	t.bracket(func() {
		t.word(s.word)
		for _, part := range s.parts {
			t.part(part, c)
		}
	})
}

// isBare tells whether all is empty that a shape has not.
func isBare(s shape, c content) bool {
	return (c.name == "" || s.has(aName)) && (c.op == api.NoOp || s.has(anOp)) && (!c.in || s.has(aWay)) &&
		(c.e == none || s.has(aValue)) && (c.cond == none || s.has(aCond)) && (len(c.acts) == 0 || s.has(theActs)) &&
		(len(c.then) == 0 || s.has(aThen) || s.has(theRest)) && (len(c.other) == 0 || s.has(anElse))
}

func (t *teller) part(part rune, c content) {
	switch part {
	case aName:
		t.name(c.name)
	case anOp:
		_, is := num.Reduces(c.op)
		t.must(is)
		t.word(OpWord(c.op))
	case aWay:
		t.way(c.in)
	case aValue:
		t.expr(c.e)
	case aCond:
		if c.cond != none {
			t.expr(c.cond)
		}
	case theActs:
		t.acts(c.acts)
	case aThen:
		t.bracket(func() { t.rows(c.then) })
	case anElse:
		t.bracket(func() { t.rows(c.other) })
	case theRest:
		t.rows(c.then)
	}
}

func (t *teller) way(in bool) {
	if in {
		t.word(coming)
	} else {
		t.word(leaving)
	}
}

func (t *teller) acts(l []api.Act) {
	t.must(1 <= len(l) && len(l) <= api.MaxActs)
	for _, a := range l {
		t.act(a)
	}
}
