package bfs_test

import (
	"strconv"
	"strings"
	"sync"
	"testing"

	"reticule/api"
	"reticule/bfs"
	"reticule/prog"
	"reticule/proof"
)

// The calls have the signatures that the chapter lists.
var (
	_ func(p api.Program) (api.Program, api.Errno) = bfs.Lower
	_ func(p api.Program) []api.Decl               = bfs.Names
)

func source(t *testing.T, text string) api.Program {
	t.Helper()
	p, at, e := prog.Source(text)
	if at != 0 || e != api.OK {
		t.Fatalf("%q is no program: %d, %d", text, at, e)
	}
	return p
}

func text(p api.Program) string {
	s, _ := prog.Text(p)
	return s
}

// chapter is what a statement of levels is, as the chapter has it, with A for the column.
const chapter = "(set R E) (each (put A (if (= (id) R) 0 -1))) (set L 0) (set M false) (fold M or (= (own A) L)) " +
	"(while M Then.. (each (put H false)) (each (push H or out true (= (own A) L))) (set L (+ L 1)) (each (put A L (and (own H) (= (own A) -1)))) (set M false) (fold M or (= (own A) L)))"

// model tells a program's text anew, bracket by bracket: what the layer is held against.
type model struct {
	names []string // fresh ones, as many as there may be
	many  int      // how many statements of levels were gone through, each behind all in it
}

// lowered are the brackets of a program without levels, and the declarations that it has more, as text.
func lowered(from string) ([]proof.Bracket, string) {
	l := proof.Brackets(from)
	var m model
	for i := 0; len(m.names) < 64; i++ {
		if name := "q" + strconv.Itoa(i); !declared(l, name) {
			m.names = append(m.names, name)
		}
	}
	var head, body []string
	for _, b := range l {
		if b.Declares() {
			head = append(head, b.String())
		} else {
			body = append(body, m.stmt(b)...)
		}
	}
	more := ""
	for i, name := range m.names[:min(4*m.many, len(m.names))] {
		more += "(" + []string{"int", "int", "bool", "nbool"}[i%4] + " " + name + ")\n"
	}
	return proof.Brackets(strings.Join(head, " ") + more + strings.Join(body, " ")), more
}

func declared(l []proof.Bracket, name string) bool {
	for _, b := range l {
		if b.Declares() && b.Parts[1].Word == name {
			return true
		}
	}
	return false
}

// stmt are the texts that a statement is.
func (m *model) stmt(b proof.Bracket) []string {
	switch b.First() {
	case "bfs":
		then := m.stmts(b.Parts[3:])
		names := []string{"x", "x", "x", "x"} // there are too many by far
		if at := 4 * m.many; at < len(m.names) {
			names = m.names[at : at+4]
		}
		m.many++
		return []string{strings.NewReplacer("L", names[0], "R", names[1], "M", names[2], "H", names[3], "A", b.Parts[1].Word, "E", b.Parts[2].String(), "Then..", then).Replace(chapter)}
	case "while", "loop":
		return []string{"(" + b.First() + " " + b.Parts[1].String() + " " + m.stmts(b.Parts[2:]) + ")"}
	case "if":
		then := m.stmts(b.Parts[2].Parts)
		return []string{"(if " + b.Parts[1].String() + " (" + then + ") (" + m.stmts(b.Parts[3].Parts) + "))"}
	}
	return []string{b.String()}
}

func (m *model) stmts(l []proof.Bracket) string {
	var texts []string
	for _, b := range l {
		texts = append(texts, m.stmt(b)...)
	}
	return strings.Join(texts, " ")
}

// wantModel asks that Lower and Names come to what the model does, and is the program.
func wantModel(t *testing.T, p api.Program) (api.Program, api.Errno) {
	t.Helper()
	want, more := lowered(text(p))
	if names := text(api.Program{Decls: bfs.Names(p)}); len(bfs.Names(p)) <= api.MaxNames && names != more {
		t.Errorf("Names of %s: %s, not %s", text(p), names, more)
	}
	q, wrong := bfs.Lower(p)
	if !proof.MayBe(want) {
		if wrong != api.ErrSpace || q.Decls != nil || q.Exprs != nil || q.Stmts != nil || q.Main != nil {
			t.Errorf("Lower of %s: %d, though it is too much", text(p), wrong)
		}
		return q, wrong
	}
	if wrong != api.OK || !prog.Sound(q) || text(q) != proof.Lines(want) {
		t.Errorf("Lower of %s: %s, %d, not %s", text(p), text(q), wrong, proof.Lines(want))
	}
	return q, wrong
}

// more are texts of programs that fit, and do not clash, with levels in all places.
func more() []string {
	var l []string
	for _, text := range []string{
		"(bfs ni 0)", "(bfs ni (- (count) 1)) (bfs nj i)", "(bfs ni 0 (bfs nj 1))", "(bfs ni -1 (set i 7))", "(bfs ni 99)",
		"(bfs ni 0 (each (put ni 3 (= (own ni) 1))))", "(bfs ni 1 (set j (+ (max j 0) 1)) (if (< 2 j) ((each (put ni -2))) ()))",
		"(bfs ni j (fold i + 1 (= (own ni) 0)) (each (put nj (max (own nj) (own ni))) (push nb or out true (own nb))))",
		"(if b ((bfs ni i)) ((bfs ni j (bfs nj 1 (set i 0)))))", "(set i 0) (while (< i 2) (bfs ni i (set j (* i 2))) (set i (+ i 1)))",
		"(set i 0) (loop (< i 2) (set i (+ i 1)) (bfs ni i) (fold j max (own ni)))", "(bfs ni 0 (bfs ni 1 (set b true)))", "(bfs ni 0 (each (pull nj + in (far ni)))) (bfs nj 0 (bfs ni 1))", "(bfs nj 0 (bfs ni 1) (bfs ni 0))",
	} {
		l = append(l, proof.Head+text)
	}
	return l
}

// all are programs of all brackets that there are, that fit and do not, and what comes of them by changes; nobody changes them.
var all = sync.OnceValue(func() []api.Program {
	var l []api.Program
	add := func(text string) {
		if p, _, e := prog.Source(text); e == api.OK {
			l = append(l, p)
		}
	}
	for _, one := range append(append(proof.Sources(), proof.Running()...), more()...) {
		add(one)
		proof.Changed(one, []string{"(int q0)", "(nbool q2)", "(eint q5)", "(bfs ni 0)", "(bfs nj i (set i 1) (bfs ni (id)))", "bfs", "while", "(while b (bfs ni 1))", "(if b ((bfs ni 0)) ((bfs ni 1)))", "(loop b (set i 1))", "(set i 1)", "(own nj)", "nj", "q1", "-1"}, add)
	}
	return l
})

// programs does f with all.
func programs(t *testing.T, f func(api.Program)) {
	t.Helper()
	if len(all()) < 3000 {
		t.Error("too few programs:", len(all()))
	}
	for _, p := range all() {
		f(p)
	}
}

func TestP17_1AndP17_2OfManyPrograms(t *testing.T) {
	t.Parallel()
	is, tooMuch := map[int]int{}, 0
	programs(t, func(p api.Program) {
		q, wrong := wantModel(t, p)
		if wrong != api.OK {
			tooMuch++
			return
		}
		is[strings.Count(text(p), "(bfs ")]++
		if strings.Contains(text(q), "(bfs ") {
			t.Errorf("%s: there are levels in %s", text(p), text(q))
		}
	})
	if is[0] < 1000 || is[1] < 500 || is[2] < 100 || is[3] < 50 || tooMuch < 20 {
		t.Error("too few programs:", is, tooMuch)
	}
}
