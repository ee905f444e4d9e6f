package prog

import (
	"fmt"
	"slices"
	"strings"

	"reticule/api"
)

// plain reads forms as the document's table has them, bracket by bracket: what Read is held against.
type plain struct {
	forms []api.Form
	p     api.Program
	wrong int // the At of the first form that is wrong
}

// plainRead is the program that forms say; false, if they say none.
func plainRead(l []api.Form, top []int) (m plain, is bool) {
	m.forms = l
	for _, at := range top {
		side, kind, declares := plainDecl(m.word(at))
		switch {
		case !declares:
			place := 0
			if !m.stmt(at, &place) {
				return m, false
			}
			m.p.Main = append(m.p.Main, place)
		case len(m.p.Main) > 0 || len(l[at].Kids) != 2:
			return m, m.fail(at)
		default:
			d := api.Decl{Side: side, Kind: kind}
			if !m.name(l[at].Kids[1], &d.Name) {
				return m, false
			}
			m.p.Decls = append(m.p.Decls, d)
		}
	}
	return m, true
}

func plainDecl(word string) (api.Side, api.Kind, bool) {
	switch word {
	case "int":
		return api.Scalar, api.Int, true
	case "bool":
		return api.Scalar, api.Bool, true
	case "nint":
		return api.OfNode, api.Int, true
	case "nbool":
		return api.OfNode, api.Bool, true
	case "eint":
		return api.OfEdge, api.Int, true
	case "ebool":
		return api.OfEdge, api.Bool, true
	}
	return 0, 0, false
}

func plainOps() []string {
	return strings.Fields("+ - * / % min max shl shr & | ^ = < not and or if narrow")
}

func (m *plain) fail(at int) bool {
	m.wrong = m.forms[at].At
	return false
}

// word is the first word of a bracket.
func (m *plain) word(at int) string {
	if kids := m.forms[at].Kids; len(kids) > 0 {
		return m.forms[kids[0]].Text
	}
	return ""
}

func (m *plain) text(at int) string { return m.forms[at].Text }

func (m *plain) is(at int, word string, least, most int) bool {
	many := len(m.forms[at].Kids) - 1
	return m.word(at) == word && least <= many && many <= most
}

func (m *plain) name(at int, to *string) bool {
	if text := m.text(at); text == "" || !strings.Contains("abcdefghijklmnopqrstuvwxyz", text[:1]) {
		return m.fail(at)
	}
	*to = m.text(at)
	return true
}

func (m *plain) reduces(at int, to *api.Op) bool {
	if !slices.Contains([]string{"+", "min", "max", "and", "or"}, m.text(at)) {
		return false
	}
	*to = api.Op(slices.Index(plainOps(), m.text(at)) + 1)
	return true
}

func (m *plain) way(at int, to *bool) bool {
	*to = m.text(at) == "in"
	return *to || m.text(at) == "out"
}

func (m *plain) exprs(places []int, to ...*int) bool {
	for i, at := range places {
		if !m.expr(at, to[i]) {
			return false
		}
	}
	return true
}

func (m *plain) expr(at int, to *int) bool {
	e, k := api.Expr{}, m.forms[at].Kids
	word := m.word(at)
	op := slices.Index(plainOps(), word)
	switch {
	case m.forms[at].Kind == api.Number:
		e.Kind, e.Of, e.Num = api.Lit, api.Int, m.forms[at].Num
	case m.text(at) == "true":
		e.Kind, e.Of, e.Num = api.Lit, api.Bool, 1
	case m.text(at) == "false":
		e.Kind, e.Of = api.Lit, api.Bool
	case m.text(at) != "":
		e.Kind = api.Var
		if !m.name(at, &e.Name) {
			return false
		}
	case m.is(at, "own", 1, 1) || m.is(at, "far", 1, 1) || m.is(at, "via", 1, 1):
		e.Kind = map[string]api.ExprKind{"own": api.Own, "far": api.Far, "via": api.Via}[word]
		if !m.name(k[1], &e.Name) {
			return false
		}
	case m.is(at, "id", 0, 0):
		e.Kind = api.Id
	case m.is(at, "farid", 0, 0):
		e.Kind = api.FarId
	case m.is(at, "count", 0, 0):
		e.Kind = api.Count
	case m.is(at, "deg", 1, 1) && (m.text(k[1]) == "in" || m.text(k[1]) == "out"):
		e.Kind = api.Deg
		if m.text(k[1]) == "in" {
			e.Num = 1
		}
	case op >= 0 && len(k) == map[string]int{"not": 2, "if": 4}[word] || op >= 0 && len(k) == 3 && word != "not" && word != "if":
		e.Kind, e.Op, e.Kids = api.Call, api.Op(op+1), make([]int, len(k)-1)
		for i := range e.Kids {
			if !m.expr(k[i+1], &e.Kids[i]) {
				return false
			}
		}
	default:
		return m.fail(at)
	}
	*to = len(m.p.Exprs)
	m.p.Exprs = append(m.p.Exprs, e)
	return true
}

func (m *plain) act(at int, a *api.Act) bool {
	*a = api.Act{E: -1, Cond: -1}
	k := m.forms[at].Kids
	switch {
	case m.is(at, "put", 2, 3):
		a.Kind = api.PutIt
		return m.name(k[1], &a.Name) && m.exprs(k[2:], &a.E, &a.Cond)
	case m.is(at, "push", 4, 5) && m.reduces(k[2], &a.Op) && m.way(k[3], &a.In):
		a.Kind = api.PushIt
		return m.name(k[1], &a.Name) && m.exprs(k[4:], &a.E, &a.Cond)
	case m.is(at, "pull", 4, 4) && m.reduces(k[2], &a.Op) && m.way(k[3], &a.In):
		a.Kind = api.PullIt
		return m.name(k[1], &a.Name) && m.exprs(k[4:], &a.E)
	}
	return m.fail(at)
}

func (m *plain) stmts(places []int, to *[]int) bool {
	for _, at := range places {
		place := 0
		if !m.stmt(at, &place) {
			return false
		}
		*to = append(*to, place)
	}
	return true
}

func (m *plain) stmt(at int, to *int) bool {
	s, k := api.Stmt{E: -1, Cond: -1}, m.forms[at].Kids
	is := false
	switch {
	case m.is(at, "set", 2, 2):
		s.Kind = api.SetIt
		is = m.name(k[1], &s.Name) && m.exprs(k[2:], &s.E)
	case m.is(at, "fold", 3, 4) && m.reduces(k[2], &s.Op):
		s.Kind = api.FoldIt
		is = m.name(k[1], &s.Name) && m.exprs(k[3:], &s.E, &s.Cond)
	case m.is(at, "each", 1, 6):
		s.Kind, is = api.EachIt, true
		for _, kid := range k[1:] {
			var a api.Act
			is = is && m.act(kid, &a)
			s.Acts = append(s.Acts, a)
		}
	case m.is(at, "if", 3, 3) && m.forms[k[2]].Kind == api.Open && m.forms[k[3]].Kind == api.Open:
		s.Kind = api.IfIt
		is = m.exprs(k[1:2], &s.E) && m.stmts(m.forms[k[2]].Kids, &s.Then) && m.stmts(m.forms[k[3]].Kids, &s.Else)
	case m.is(at, "while", 1, 400):
		s.Kind = api.WhileIt
		is = m.exprs(k[1:2], &s.E) && m.stmts(k[2:], &s.Then)
	case m.is(at, "loop", 1, 400):
		s.Kind = api.LoopIt
		is = m.exprs(k[1:2], &s.E) && m.stmts(k[2:], &s.Then)
	case m.is(at, "bfs", 2, 400):
		s.Kind = api.BfsIt
		is = m.name(k[1], &s.Name) && m.exprs(k[2:3], &s.E) && m.stmts(k[3:], &s.Then)
	default:
		return m.fail(at)
	}
	*to = len(m.p.Stmts)
	m.p.Stmts = append(m.p.Stmts, s)
	return is
}

// said is a program's text as far as it has one: expressions, acts and statements by the table, places that are none as ?.
type said struct {
	p    api.Program
	left int // how many more are told: programs may go round
}

func plainText(p api.Program) string {
	t := said{p, len(p.Exprs) + len(p.Stmts)} // of a sound program each once
	var text strings.Builder
	for _, d := range p.Decls {
		fmt.Fprintf(&text, "(%s%s %s)\n", map[api.Side]string{api.Scalar: "", api.OfNode: "n", api.OfEdge: "e"}[d.Side], map[api.Kind]string{api.Int: "int", api.Bool: "bool"}[d.Kind], d.Name)
	}
	for _, at := range p.Main {
		text.WriteString(t.stmt(at) + "\n")
	}
	return text.String()
}

func (t *said) ends() bool {
	t.left--
	return t.left < 0
}

func opText(o api.Op) string {
	if o < 1 || int(o) > len(plainOps()) {
		return "?"
	}
	return plainOps()[o-1]
}

func wayText(in bool) string {
	if in {
		return "in"
	}
	return "out"
}

func (t *said) expr(at int) string {
	if at < 0 || at >= len(t.p.Exprs) || t.ends() {
		return "?"
	}
	switch e := t.p.Exprs[at]; e.Kind {
	case api.Lit:
		if e.Of == api.Bool {
			return fmt.Sprint(e.Num != 0)
		}
		return fmt.Sprint(e.Num)
	case api.Var:
		return e.Name
	case api.Own:
		return "(own " + e.Name + ")"
	case api.Far:
		return "(far " + e.Name + ")"
	case api.Via:
		return "(via " + e.Name + ")"
	case api.Id:
		return "(id)"
	case api.FarId:
		return "(farid)"
	case api.Deg:
		return "(deg " + wayText(e.Num == 1) + ")"
	case api.Count:
		return "(count)"
	case api.Call:
		text := "(" + opText(e.Op)
		for _, kid := range e.Kids {
			text += " " + t.expr(kid)
		}
		return text + ")"
	}
	return "?"
}

func (t *said) cond(at int) string {
	if at == -1 {
		return ""
	}
	return " " + t.expr(at)
}

func (t *said) act(a api.Act) string {
	switch a.Kind {
	case api.PutIt:
		return "(put " + a.Name + " " + t.expr(a.E) + t.cond(a.Cond) + ")"
	case api.PushIt:
		return "(push " + a.Name + " " + opText(a.Op) + " " + wayText(a.In) + " " + t.expr(a.E) + t.cond(a.Cond) + ")"
	case api.PullIt:
		return "(pull " + a.Name + " " + opText(a.Op) + " " + wayText(a.In) + " " + t.expr(a.E) + ")"
	}
	return "?"
}

func (t *said) stmts(places []int) string {
	var all []string
	for _, at := range places {
		all = append(all, t.stmt(at))
	}
	return strings.Join(all, " ")
}

func (t *said) stmt(at int) string {
	if at < 0 || at >= len(t.p.Stmts) || t.ends() {
		return "?"
	}
	s := t.p.Stmts[at]
	then := t.stmts(s.Then)
	if then != "" {
		then = " " + then
	}
	switch s.Kind {
	case api.SetIt:
		return "(set " + s.Name + " " + t.expr(s.E) + ")"
	case api.FoldIt:
		return "(fold " + s.Name + " " + opText(s.Op) + " " + t.expr(s.E) + t.cond(s.Cond) + ")"
	case api.EachIt:
		text := "(each"
		for _, a := range s.Acts {
			text += " " + t.act(a)
		}
		return text + ")"
	case api.IfIt:
		return "(if " + t.expr(s.E) + " (" + strings.TrimPrefix(then, " ") + ") (" + t.stmts(s.Else) + "))"
	case api.WhileIt:
		return "(while " + t.expr(s.E) + then + ")"
	case api.LoopIt:
		return "(loop " + t.expr(s.E) + then + ")"
	case api.BfsIt:
		return "(bfs " + s.Name + " " + t.expr(s.E) + then + ")"
	}
	return "?"
}

// dump tells all of a program; lists that are empty and nil lists alike.
func dump(p api.Program) string { return fmt.Sprintf("%+v", p) }
