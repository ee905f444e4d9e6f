package proof

import (
	"strings"
	"testing"

	"reticule/api"
)

func TestBrackets(t *testing.T) {
	for _, c := range []struct {
		text        string
		forms, deep int
	}{
		{"", 0, 0}, {"(int a)\n", 3, 1}, {"(set a (+ 1 2))\n(set b -3)\n", 11, 2}, {"(if a () ((set b (id))))\n", 10, 4},
	} {
		if l := Brackets(c.text); Lines(l) != c.text || Forms(l) != c.forms || Deep(l) != c.deep {
			t.Errorf("%q: %q, %d, %d", c.text, Lines(l), Forms(l), Deep(l))
		}
	}
}

func TestMayBe(t *testing.T) {
	deep := func(n int) string { return strings.Repeat("(while i ", n) + strings.Repeat(")", n) }
	for text, want := range map[string]bool{
		strings.Repeat("(int a)", api.MaxNames): true, strings.Repeat("(int a)", api.MaxNames+1): false,
		strings.Repeat("(set a 1)", api.MaxForms/4): true, strings.Repeat("(set a 1)", api.MaxForms/4) + "(while a)": false,
		deep(api.MaxDepth): true, deep(api.MaxDepth + 1): false,
	} {
		if MayBe(Brackets(text)) != want {
			t.Error(text)
		}
	}
}

func TestMangledProgramsAreOthers(t *testing.T) {
	p := api.Program{Exprs: []api.Expr{{Kids: []int{1}}}, Stmts: []api.Stmt{{Then: []int{2}, Acts: []api.Act{{E: 5}}}}, Main: []int{3}}
	want, found := Whole(Program(p)), 0
	Mangled(p, func(q api.Program) {
		if Whole(q) != want {
			found++
		}
	})
	if found < 100 {
		t.Error(found)
	}
}
