package typed_test

import (
	"strings"
	"testing"

	"reticule/api"
	"reticule/prog"
	"reticule/proof"
	"reticule/typed"
)

// plain looks at a program's forms, bracket by bracket, as the chapter has them: what the calls are held against. Kinds are i, b, and empty for none; places are letters: s (InScalar), n (InNode), u (InPush), l (InPull).
type plain struct {
	forms []api.Form
	kinds map[string]string // of a side's letter, and a name
	twice bool              // is a column declared twice?
	exprs []int             // the forms of the program's expressions
	fits  []bool            // which statements fit
}

func plainOf(p api.Program) *plain {
	l, top, _ := prog.Write(p)
	m := &plain{forms: l, kinds: map[string]string{}}
	for _, at := range top {
		if key, kind := plainDecl(m.word(at)); kind == "" {
			m.stmt(at)
		} else {
			key += m.text(m.kid(at, 1))
			if m.kinds[key] == "" {
				m.kinds[key] = kind
			} else {
				m.twice = true
			}
		}
	}
	return m
}

// plainDecl is a declaration's side and kind; empty of other words.
func plainDecl(word string) (string, string) {
	switch word {
	case "int":
		return "s ", "i"
	case "bool":
		return "s ", "b"
	case "nint":
		return "n ", "i"
	case "nbool":
		return "n ", "b"
	case "eint":
		return "e ", "i"
	case "ebool":
		return "e ", "b"
	}
	return "", ""
}

func (m *plain) text(at int) string { return m.forms[at].Text }

func (m *plain) kid(at, i int) int { return m.forms[at].Kids[i] }

// word is a bracket's first one.
func (m *plain) word(at int) string {
	if len(m.forms[at].Kids) == 0 {
		return ""
	}
	return m.text(m.kid(at, 0))
}

// isCall tells whether a bracket's word is an operation.
func isCall(word string) bool {
	return strings.Contains(" + - * / % min max shl shr & | ^ = < not and or if narrow ", " "+word+" ")
}

// note keeps which forms are expressions, each behind those in it.
func (m *plain) note(at int) {
	if word := m.word(at); isCall(word) {
		for _, kid := range m.forms[at].Kids[1:] {
			m.note(kid)
		}
	}
	m.exprs = append(m.exprs, at)
}

// kind is that of the form at a place, where it stands.
func (m *plain) kind(at int, where string) string {
	form, word := m.forms[at], m.word(at)
	stands, narrow := map[string]string{"own": "nu", "id": "nu", "deg": "nu", "via": "ul", "far": "l", "farid": "l"}[word]
	switch {
	case form.Kind == api.Number:
		return "i"
	case form.Text == "true" || form.Text == "false":
		return "b"
	case form.Kind == api.Name:
		return m.kinds["s "+form.Text]
	case narrow && !strings.Contains(stands, where):
		return ""
	case word == "id" || word == "farid" || word == "deg" || word == "count":
		return "i"
	case word == "own" || word == "far":
		return m.kinds["n "+m.text(m.kid(at, 1))]
	case word == "via":
		return m.kinds["e "+m.text(m.kid(at, 1))]
	}
	kids := ""
	for _, kid := range form.Kids[1:] {
		kids += m.kind(kid, where)
	}
	return plainCall(word, kids)
}

// plainCall is the kind of an operation of kinds.
func plainCall(word, kids string) string {
	switch word {
	case "not":
		return map[string]string{"b": "b"}[kids]
	case "and", "or":
		return map[string]string{"bb": "b"}[kids]
	case "=":
		return map[string]string{"ii": "b", "bb": "b"}[kids]
	case "<":
		return map[string]string{"ii": "b"}[kids]
	case "if":
		return map[string]string{"bii": "i", "bbb": "b"}[kids]
	}
	return map[string]string{"ii": "i"}[kids]
}

// is tells whether kids of a bracket are of a kind, where they stand; kids that are missing are.
func (m *plain) is(at, i int, where, kind string) bool {
	return kind != "" && (i >= len(m.forms[at].Kids) || m.kind(m.kid(at, i), where) == kind)
}

// takes tells whether the operation that stands second in a bracket fits a kind.
func (m *plain) takes(at int, kind string) bool {
	return map[string]string{"+": "i", "min": "i", "max": "i", "and": "b", "or": "b"}[m.text(m.kid(at, 2))] == kind
}

func (m *plain) act(at int) bool {
	kind := m.kinds["n "+m.text(m.kid(at, 1))]
	switch m.word(at) {
	case "put":
		return m.is(at, 2, "n", kind) && m.is(at, 3, "n", "b")
	case "push":
		return m.is(at, 4, "u", kind) && m.is(at, 5, "n", "b") && m.takes(at, kind)
	}
	return m.is(at, 4, "l", kind) && m.takes(at, kind)
}

func (m *plain) stmt(at int) {
	word, kids := m.word(at), m.forms[at].Kids
	fits := true
	switch word {
	case "set":
		m.noteAll(kids[2:])
		fits = m.is(at, 2, "s", m.kinds["s "+m.text(kids[1])])
	case "fold":
		m.noteAll(kids[3:])
		kind := m.kinds["s "+m.text(kids[1])]
		fits = m.is(at, 3, "n", kind) && m.is(at, 4, "n", "b") && m.takes(at, kind)
	case "each":
		for _, kid := range kids[1:] {
			if m.word(kid) == "put" {
				m.noteAll(m.forms[kid].Kids[2:])
			} else {
				m.noteAll(m.forms[kid].Kids[4:])
			}
			fits = m.act(kid) && fits
		}
	case "bfs":
		m.noteAll(kids[2:3])
		fits = m.kinds["n "+m.text(kids[1])] == "i" && m.is(at, 2, "s", "i")
		m.stmts(kids[3:])
	default:
		m.noteAll(kids[1:2])
		fits = m.is(at, 1, "s", "b")
		if word == "if" {
			m.stmts(m.forms[kids[2]].Kids)
			m.stmts(m.forms[kids[3]].Kids)
		} else {
			m.stmts(kids[2:])
		}
	}
	m.fits = append(m.fits, fits)
}

func (m *plain) noteAll(places []int) {
	for _, at := range places {
		m.note(at)
	}
}

func (m *plain) stmts(places []int) {
	for _, at := range places {
		m.stmt(at)
	}
}

// check is what Check must answer.
func (m *plain) check() (int, api.Errno) {
	if m.twice {
		return -1, api.ErrType
	}
	for at, fits := range m.fits {
		if !fits {
			return at, api.ErrType
		}
	}
	return 0, api.OK
}

// programs does f with many programs, those that fit and those that do not.
func programs(t *testing.T, f func(api.Program)) {
	t.Helper()
	fit, other := 0, 0
	hand := func(text string) {
		p, _, e := prog.Source(text)
		if e != api.OK {
			return
		}
		f(p)
		if _, e := plainOf(p).check(); e == api.OK {
			fit++
		} else {
			other++
		}
	}
	for _, text := range proof.Fitting() {
		hand(text)
		proof.Changed(text, []string{"i", "b", "ni", "nb", "eb", "z", "3", "true", "(own ni)", "(far nb)", "(via ei)", "(id)", "(farid)", "(int i)", "(nbool z)", "+", "or", "=", "not", "in"}, hand)
	}
	for _, text := range proof.Sources() {
		hand(text)
		proof.Changed(text, []string{"a", "true", "(int a)", "(nint b)", "(own b)"}, hand)
	}
	if fit < 500 || other < 1500 {
		t.Errorf("too few programs fit, or do not: %d, %d", fit, other)
	}
}

func TestP11_1KindOfInAnyProgram(t *testing.T) {
	kinds := map[string]api.Kind{"i": api.Int, "b": api.Bool}
	programs(t, func(p api.Program) {
		m := plainOf(p)
		if len(m.exprs) != len(p.Exprs) || len(m.fits) != len(p.Stmts) {
			t.Fatalf("%v: what it is held against is wrong", p)
		}
		for at, form := range m.exprs {
			for i, where := range []string{"s", "n", "u", "l"} {
				want, wrong := kinds[m.kind(form, where)], api.OK
				if want == api.NoKind {
					wrong = api.ErrType
				}
				if got, e := typed.KindOf(p, at, typed.Where(i+1)); got != want || e != wrong {
					t.Errorf("%v, %d, %s: %d, %d, not %d", p, at, where, got, e, want)
				}
			}
		}
	})
}

func TestP11_2CheckOfAnyProgram(t *testing.T) {
	programs(t, func(p api.Program) {
		at, e := plainOf(p).check()
		if gotAt, got := typed.Check(p); gotAt != at || got != e {
			t.Errorf("%v: %d, %d, not %d, %d", p, gotAt, got, at, e)
		}
	})
}
