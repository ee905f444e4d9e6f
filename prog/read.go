package prog

import (
	"strings"

	"reticule/api"
	"reticule/num"
)

// reader reads forms that are right.
type reader struct {
	words   vocabulary
	forms   []api.Form
	program api.Program
}

// must gives up at the form at a place, unless it is right.
func (r *reader) must(right bool, at int) {
	if !right {
		panic(fault{r.forms[at].At, api.ErrSyntax})
	}
}

// bracket is the first word of the bracket at a place, and the places behind it; of what has no first word the word is empty.
func (r *reader) bracket(at int) (string, []int) {
	kids := r.forms[at].Kids
	if len(kids) == 0 {
		return "", nil
	}
	return r.forms[kids[0]].Text, kids[1:]
}

// all reads uppermost forms.
func (r *reader) all(top []int) {
	for _, at := range top {
		word, kids := r.bracket(at)
		if d, is := r.words.decls[word]; is {
			r.must(len(r.program.Main) == 0, at)
			d.Name = r.content(at, kids, declShape(d.Side, d.Kind)).name
			r.program.Decls = append(r.program.Decls, d)
		} else {
			r.program.Main = append(r.program.Main, r.stmt(at))
		}
	}
}

func (r *reader) stmt(at int) int {
	word, kids := r.bracket(at)
	kind, is := r.words.stmts[word]
	r.must(is, at)
	c := r.content(at, kids, stmtShape(kind))
	r.program.Stmts = append(r.program.Stmts, api.Stmt{Kind: kind, Name: c.name, Op: c.op, E: c.e, Cond: c.cond, Acts: c.acts, Then: c.then, Else: c.other})
	return len(r.program.Stmts) - 1
}

func (r *reader) act(at int) api.Act {
	word, kids := r.bracket(at)
	kind, is := r.words.acts[word]
	r.must(is, at)
	c := r.content(at, kids, actShape(kind))
	return api.Act{Kind: kind, Name: c.name, Op: c.op, In: c.in, E: c.e, Cond: c.cond}
}

func (r *reader) expr(at int) int {
	e := r.written(at)
	r.program.Exprs = append(r.program.Exprs, e)
	return len(r.program.Exprs) - 1
}

// written is the expression at a place, once its kids are read.
func (r *reader) written(at int) api.Expr {
	form := r.forms[at]
	switch {
	case form.Kind == api.Number:
		return api.Expr{Kind: api.Lit, Of: api.Int, Num: form.Num}
	case form.Text == yes, form.Text == no:
		return api.Expr{Kind: api.Lit, Of: api.Bool, Num: asWord(form.Text == yes)}
	case isName(form.Text):
		return api.Expr{Kind: api.Var, Name: strings.Clone(form.Text)}
	}
	word, kids := r.bracket(at)
	if o, is := r.words.ops[word]; is {
		r.must(len(kids) == num.Arity(o), at)
		return api.Expr{Kind: api.Call, Op: o, Kids: each(kids, r.expr)}
	}
	kind, is := r.words.exprs[word]
	r.must(is, at)
	c := r.content(at, kids, exprShape(kind))
	return api.Expr{Kind: kind, Name: c.name, Num: asWord(c.in)}
}

// each are the answers of f at places, one behind the other.
func each(places []int, f func(int) int) []int {
	var out []int
	for _, at := range places {
		out = append(out, f(at))
	}
	return out
}

// content reads the kids of the bracket at a place, from the left, once they are found to be of its shape.
func (r *reader) content(at int, kids []int, s shape) content {
	r.must(s.fits(len(kids)), at)
	for i, kid := range kids {
		r.must(r.looks(r.forms[kid], s.nth(i)), at)
	}
	c := content{e: none, cond: none}
	for i, kid := range kids {
		r.take(&c, kid, s.nth(i))
	}
	return c
}

// looks tells whether a form can be a part, as far as the bracket itself hangs on it.
func (r *reader) looks(form api.Form, part rune) bool {
	switch part {
	case anOp:
		_, is := num.Reduces(r.words.ops[form.Text])
		return is
	case aWay:
		return form.Text == leaving || form.Text == coming
	case aThen, anElse:
		return form.Kind == api.Open
	}
	return true
}

// take reads the form at a place as a part.
func (r *reader) take(c *content, at int, part rune) {
	form := r.forms[at]
	switch part {
	case aName:
		r.must(isName(form.Text), at)
		c.name = strings.Clone(form.Text)
	case anOp:
		c.op = r.words.ops[form.Text]
	case aWay:
		c.in = form.Text == coming
	case aValue:
		c.e = r.expr(at)
	case aCond:
		c.cond = r.expr(at)
	case theActs:
		c.acts = append(c.acts, r.act(at))
	case aThen:
		c.then = each(form.Kids, r.stmt)
	case anElse:
		c.other = each(form.Kids, r.stmt)
	case theRest:
		c.then = append(c.then, r.stmt(at))
	}
}
