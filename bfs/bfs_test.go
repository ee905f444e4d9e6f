package bfs_test

import (
	"fmt"
	"slices"
	"strconv"
	"strings"
	"testing"

	"reticule/api"
	"reticule/bfs"
	"reticule/prog"
	"reticule/proof"
)

// four are the declarations of a statement of levels, of four names.
func four(names ...string) []api.Decl {
	return []api.Decl{{Name: names[0], Side: api.Scalar, Kind: api.Int}, {Name: names[1], Side: api.Scalar, Kind: api.Int}, {Name: names[2], Side: api.Scalar, Kind: api.Bool}, {Name: names[3], Side: api.OfNode, Kind: api.Bool}}
}

func TestP17_1Names(t *testing.T) {
	first, second := four("q0", "q1", "q2", "q3"), four("q4", "q5", "q6", "q7")
	for from, want := range map[string][]api.Decl{
		"": nil, "(int bfs)": nil, "(set bfs 1)": nil, "(nint a) (while true (each (put a 1)))": nil,
		"(bfs a 0)": first, "(bfs a 0 (set i 1) (set j 2))": first, "(while true (bfs a 0))": first, "(loop true (bfs a 0))": first, "(if true ((bfs a 0)) ())": first, "(if true () ((bfs a 0)))": first,
		"(bfs a 0) (bfs a 0)": slices.Concat(first, second), "(bfs a 0 (bfs b 0))": slices.Concat(first, second), "(if true ((bfs a 0)) ((bfs b 0)))": slices.Concat(first, second),
		"(bfs a 0) (while true (bfs b 0 (bfs c 0)))": slices.Concat(first, second, four("q8", "q9", "q10", "q11")),
		// Names that are declared already, on whatever side; used ones that are not declared are of no matter.
		"(int q0) (bfs a 0)": four("q1", "q2", "q3", "q4"), "(nbool q1) (bfs a 0)": four("q0", "q2", "q3", "q4"), "(eint q3) (ebool q2) (bfs a 0)": four("q0", "q1", "q4", "q5"),
		"(int q0) (nint q0) (eint q0) (int q7) (bfs a 0) (bfs a 0)": slices.Concat(four("q1", "q2", "q3", "q4"), four("q5", "q6", "q8", "q9")), "(int q00) (int q) (int q01) (bfs a 0)": first,
		"(bfs q0 q1 (set q2 (own q3)))": first, "(int q4) (int q5) (int q9) (bfs a 0)": first, "(int q0)": nil,
	} {
		if got := bfs.Names(source(t, from)); !slices.Equal(got, want) {
			t.Errorf("%s: %v, not %v", from, got, want)
		}
	}
}

// There are 64 fresh names at most: the statements behind the 16th have none.
func TestP17_1NamesOfMany(t *testing.T) {
	for many := range api.MaxForms/4 + 1 {
		p := api.Program{}
		for i := range many {
			p.Exprs = append(p.Exprs, api.Expr{Kind: api.Lit, Of: api.Int})
			p.Stmts = append(p.Stmts, api.Stmt{Kind: api.BfsIt, Name: "a", E: i, Cond: -1})
			p.Main = append(p.Main, i)
		}
		var want []api.Decl
		for i := range min(many, 16) {
			want = append(want, four("q"+strconv.Itoa(4*i), "q"+strconv.Itoa(4*i+1), "q"+strconv.Itoa(4*i+2), "q"+strconv.Itoa(4*i+3))...)
		}
		if got := bfs.Names(p); !prog.Sound(p) || !slices.Equal(got, want) {
			t.Errorf("%d statements: %v, not %v", many, got, want)
		}
		// Three have 327 forms when they are lowered.
		if q, wrong := bfs.Lower(p); (wrong == api.OK) != (many <= 3) || wrong != api.OK && wrong != api.ErrSpace || (len(q.Stmts) > 0) != (many > 0 && wrong == api.OK) {
			t.Errorf("%d statements: %d", many, wrong)
		}
	}
}

func wantLower(t *testing.T, from, want string) {
	t.Helper()
	p := source(t, from)
	q, wrong := bfs.Lower(p)
	if wrong != api.OK || !prog.Same(q, source(t, want)) {
		t.Errorf("%s: %s, %d, not %s", from, text(q), wrong, want)
	}
	wantModel(t, p)
}

// row is what a statement of levels of a is, written out, with the names from qn on.
func row(a, e, then string, n int) string {
	l, r, m, h := "q"+strconv.Itoa(n), "q"+strconv.Itoa(n+1), "q"+strconv.Itoa(n+2), "q"+strconv.Itoa(n+3)
	return fmt.Sprintf("(set %[2]s %[6]s) (each (put %[5]s (if (= (id) %[2]s) 0 -1))) (set %[1]s 0) (set %[3]s false) (fold %[3]s or (= (own %[5]s) %[1]s)) "+
		"(while %[3]s %[7]s (each (put %[4]s false)) (each (push %[4]s or out true (= (own %[5]s) %[1]s))) (set %[1]s (+ %[1]s 1)) (each (put %[5]s %[1]s (and (own %[4]s) (= (own %[5]s) -1)))) (set %[3]s false) (fold %[3]s or (= (own %[5]s) %[1]s)))",
		l, r, m, h, a, e, then)
}

const decls0, decls4 = "(int q0) (int q1) (bool q2) (nbool q3) ", "(int q4) (int q5) (bool q6) (nbool q7) "

func TestP17_1Lower(t *testing.T) {
	for from, want := range map[string]string{
		"(nint d) (bfs d 0)": "(nint d) " + decls0 + row("d", "0", "", 0),
		"(bfs d 0)":          decls0 + row("d", "0", "", 0),
		"(nint d) (int i) (bfs d (+ i (count)) (set i 1) (set i 2))": "(nint d) (int i) " + decls0 + row("d", "(+ i (count))", "(set i 1) (set i 2)", 0),
		"(nint d) (nint f) (bfs d 0) (bfs f 1 (set i 1))":            "(nint d) (nint f) " + decls0 + decls4 + row("d", "0", "", 0) + row("f", "1", "(set i 1)", 4),
		// The inner one stands ahead, and has the first names.
		"(nint d) (nint f) (bfs d 0 (bfs f 1))":                                  "(nint d) (nint f) " + decls0 + decls4 + row("d", "0", row("f", "1", "", 0), 4),
		"(nint d) (bfs d (id) (set i 1) (bfs d (own e) (set j 2)) (set k 3))":    "(nint d) " + decls0 + decls4 + row("d", "(id)", "(set i 1) "+row("d", "(own e)", "(set j 2)", 0)+" (set k 3)", 4),
		"(set i 1) (bfs d 0) (set j 2)":                                          decls0 + "(set i 1) " + row("d", "0", "", 0) + " (set j 2)",
		"(while (< i 3) (set i 1) (bfs d i) (set j 2))":                          decls0 + "(while (< i 3) (set i 1) " + row("d", "i", "", 0) + " (set j 2))",
		"(loop b (bfs d i (set i 1))) (fold i + 1 true)":                         decls0 + "(loop b " + row("d", "i", "(set i 1)", 0) + ") (fold i + 1 true)",
		"(if b ((bfs d i)) ((set i 1)))":                                         decls0 + "(if b (" + row("d", "i", "", 0) + ") ((set i 1)))",
		"(if b ((bfs d i)) ((bfs e j)))":                                         decls0 + decls4 + "(if b (" + row("d", "i", "", 0) + ") (" + row("e", "j", "", 4) + "))",
		"(if b () ((bfs d i (each (put a 1 true) (pull c max in (far a))))))":    decls0 + "(if b () (" + row("d", "i", "(each (put a 1 true) (pull c max in (far a)))", 0) + "))",
		"(bfs d i (while b (bfs e j)) (loop c (set i 1)) (if b () ((set k 1))))": decls0 + decls4 + row("d", "i", "(while b "+row("e", "j", "", 0)+") (loop c (set i 1)) (if b () ((set k 1)))", 4),
	} {
		wantLower(t, from, want)
	}
	wantLower(t, "(nint d) (int q0) (bfs d q0 (set q0 1))", "(nint d) (int q0) (int q1) (int q2) (bool q3) (nbool q4) "+row("d", "q0", "(set q0 1)", 1))
}

// The example of the chapter.
func TestP17_1LowerWithoutLevels(t *testing.T) {
	for _, from := range append(proof.Sources(), proof.Running()...) {
		if !strings.Contains(from, "(bfs ") {
			wantLower(t, from, from)
		}
	}
}

// filled is a program of levels that has so many forms when it is lowered, with statements of few forms ahead of it.
func filled(t *testing.T, forms int, levels string) string {
	t.Helper()
	l, _ := lowered(levels)
	left := forms - proof.Forms(l)
	ahead := ""
	for left >= 9 {
		ahead += "(set i 1) " // four forms
		left -= 4
	}
	return ahead + map[int]string{5: "(set i (id)) ", 6: "(set i (own a)) ", 7: "(set i (not (id))) ", 8: "(set i 1) (set i 1) "}[left] + levels
}

func TestP17_1LowerThatIsLargerThanMayBe(t *testing.T) {
	for _, levels := range []string{"(bfs d 0)", "(bfs d (+ 1 (* 2 3)) (set i 1))", "(bfs d 0 (bfs e 1))", "(while b (bfs d 0)) (bfs e 1 (set i 2) (set j 3))"} {
		for forms := api.MaxForms - 6; forms <= api.MaxForms+6; forms++ {
			p := source(t, filled(t, forms, levels))
			q, wrong := wantModel(t, p)
			if (wrong == api.OK) != (forms <= api.MaxForms) {
				t.Errorf("%s, %d forms: %d", levels, forms, wrong)
			}
			if l, _, _ := prog.Write(q); wrong == api.OK && len(l) != forms {
				t.Errorf("%s: %d forms, not %d", levels, len(l), forms)
			}
		}
	}
}

// Many expressions and statements: more than may be in all by then, and of levels whose names are few enough.
func TestP17_1LowerOfManyExpressionsAndStatements(t *testing.T) {
	deep := "1"
	for range api.MaxDepth - 1 {
		deep = "(if 1 1 " + deep + ")"
	}
	ok := 0
	for many := range 8 {
		for _, one := range []string{"(set i " + deep + ")", "(while i)"} {
			for _, levels := range []string{"(bfs a 0)", "(bfs a 0 (set i 1) (while j (set k 2)))"} {
				from := strings.Repeat(levels, many)
				for range 5 {
					from += strings.Repeat(one, 1+20/len(one))
					p := source(t, from)
					if _, wrong := wantModel(t, p); wrong == api.OK {
						ok++
					}
				}
			}
		}
	}
	if ok < 20 {
		t.Error("too few programs that can be:", ok)
	}
}

func TestP17_1LowerThatIsDeeperThanMayBe(t *testing.T) {
	for _, around := range [][2]string{{"(while b ", ")"}, {"(loop b ", ")"}, {"(bfs e 0 ", ")"}, {"(if b (", ") ())"}, {"(if b () (", "))"}} {
		for many := range api.MaxDepth {
			deep := strings.Repeat(around[0], many) + "(bfs d 0)" + strings.Repeat(around[1], many)
			p, _, e := prog.Source(deep)
			if e != api.OK {
				continue
			}
			_, wrong := wantModel(t, p)
			brackets := proof.Deep(proof.Brackets(around[0]+around[1])) * many
			isMany := around[0] == "(bfs e 0 " && many > 2 // these have too many forms, too
			if (wrong == api.OK) != (brackets+6 <= api.MaxDepth && !isMany) {
				t.Errorf("%s: %d", deep, wrong)
			}
		}
	}
	// What is in it, and its E, are as deep as they were.
	e := strings.Repeat("(not ", api.MaxDepth-1) + "b" + strings.Repeat(")", api.MaxDepth-1)
	wantLower(t, "(bfs d "+e+")", decls0+row("d", e, "", 0))
	then := strings.Repeat("(while b ", api.MaxDepth-1) + strings.Repeat(")", api.MaxDepth-1)
	wantLower(t, "(bfs d 0 "+then+")", decls0+row("d", "0", then, 0))
}

func TestP17_1LowerOfTooManyNames(t *testing.T) {
	for names := range api.MaxNames + 1 {
		for levels := range 4 { // more of them have too many forms
			head := ""
			for i := range names {
				head += []string{"(int ", "(nbool ", "(eint "}[i%3] + string(rune('a'+i)) + ") "
			}
			p := source(t, head+strings.Repeat("(bfs a 0) ", levels))
			q, wrong := wantModel(t, p)
			if (wrong == api.OK) != (names+4*levels <= api.MaxNames) || wrong == api.OK && len(q.Decls) != names+4*levels {
				t.Errorf("%d names, %d of levels: %d, %d", names, levels, len(q.Decls), wrong)
			}
		}
	}
}
