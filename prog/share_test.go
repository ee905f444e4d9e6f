package prog

import (
	"fmt"
	"math"
	"slices"
	"strings"
	"testing"

	"reticule/api"
	"reticule/proof"
)

// roomyForms are forms anew, with things in the spare room behind the ends of their lists.
func roomyForms(l []api.Form) []api.Form {
	out := proof.Roomy(l, api.Form{Text: "spare"})
	for i := range out {
		out[i].Kids = proof.Roomy(out[i].Kids, 77)
	}
	return out
}

func wholeForms(l []api.Form, top []int) string {
	text := fmt.Sprint(l[:cap(l)], top[:cap(top)])
	for _, form := range l {
		text += fmt.Sprint(form.Kids[:cap(form.Kids)])
	}
	return text
}

func TestP3FormsStayAsTheyAre(t *testing.T) {
	for _, text := range append(proof.Sources(), "(set)", "(set a (own 1))", "(each (put a 1) 2)") {
		l, top := formsOf(t, text)
		l, top = roomyForms(l), proof.Roomy(top, 77)
		want := wholeForms(l, top)
		p, _, _ := Read(l, top)
		if wholeForms(l, top) != want {
			t.Errorf("%q: Read changes forms", text)
		}
		if !proof.Apart(l, top, p) {
			t.Errorf("%q: lists share memory", text)
		}
	}
}

func TestP3ProgramsStayAsTheyAre(t *testing.T) {
	for _, text := range proof.Sources() {
		p := proof.Program(source(t, text))
		want := proof.Whole(p)
		l, top, _ := Write(p)
		Sound(p)
		Text(p)
		Same(p, p)
		if proof.Whole(p) != want {
			t.Errorf("%q is changed", text)
		}
		if q, _, _ := Source(text); !proof.Apart(p, l, top, q) {
			t.Errorf("%q: lists share memory", text)
		}
	}
}

func TestP6NothingIsKeptBetweenCalls(t *testing.T) {
	for range 3 {
		for _, text := range proof.Sources() {
			Source("(set a")
			Source("(set)")
			Source(declarations(30))
			Sound(api.Program{Main: []int{0}})
			sourceIsPlain(t, text)
		}
	}
}

func TestP1WhateverIsHandedIn(t *testing.T) {
	for _, text := range []string{"\x00", "\xff\xfe(", strings.Repeat("(", 5000), strings.Repeat(")", 5000), strings.Repeat("a", 5000), "(set a \xe2)", "((((((((((((((", "(int a", "\n\n;"} {
		if p, _, e := Source(text); dump(p) != dump(api.Program{}) || e == api.OK && text != "\n\n;" {
			t.Errorf("%.20q: %d", text, e)
		}
	}
	kinds := []api.TokenKind{api.NoToken, api.Open, api.Close, api.Name, api.Number, 99}
	for i := range 3000 {
		var l []api.Form
		for j := range i % 7 {
			l = append(l, api.Form{Kind: kinds[(i+j)%6], Text: []string{"", "set", "a", "\xff"}[(i/7+j)%4], Num: api.Word(i % 2), Kids: []int{i % 9, j + 1, -i}[:(i+j)%4%3], At: -i})
		}
		Read(l, []int{0, i % 5, -1, math.MaxInt}[:i%5%4])
	}
	for i := range 3000 {
		p := api.Program{Main: slices.Repeat([]int{i%4 - 1}, i%3)}
		for j := range i % 5 {
			p.Decls = append(p.Decls, api.Decl{Name: []string{"a", "", "B"}[(i+j)%3], Side: api.Side(i % 5), Kind: api.Kind(i % 4)})
			p.Exprs = append(p.Exprs, api.Expr{Kind: api.ExprKind(i % 12), Of: api.Kind(j), Op: api.Op(i % 21), Name: "a", Num: api.Word(i), Kids: []int{j - 1, i % 7, j}[:(i+j)%4]})
			p.Stmts = append(p.Stmts, api.Stmt{Kind: api.StmtKind(i % 9), Name: "a", Op: api.Op(i % 21), E: j, Cond: i%3 - 1, Acts: make([]api.Act, i%9), Then: []int{j - 1, j, j + 1}[:i%4], Else: []int{i % 7}[:i%2]})
		}
		if Sound(p) != plainSound(p) {
			t.Errorf("%s: %v", dump(p), Sound(p))
		}
		Write(p)
		Text(p)
		Same(p, api.Program{})
	}
}
