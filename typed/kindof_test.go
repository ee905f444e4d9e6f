package typed_test

import (
	"fmt"
	"math"
	"strings"
	"testing"

	"reticule/api"
	"reticule/prog"
	"reticule/proof"
	"reticule/typed"
)

// The calls have the signatures that the chapter lists.
var (
	_ func(p api.Program, e int, w typed.Where) (api.Kind, api.Errno) = typed.KindOf
	_ func(api.Program) (int, api.Errno)                              = typed.Check
)

const head = "(int i) (bool b) (nint ni) (nbool nb) (eint ei) (ebool eb) "

func source(t *testing.T, text string) api.Program {
	t.Helper()
	p, at, e := prog.Source(text)
	if at != 0 || e != api.OK {
		t.Fatalf("%q is no program: %d, %d", text, at, e)
	}
	return p
}

// wantKind asks for the kind of an expression behind declarations.
func wantKind(t *testing.T, decls, expr string, w typed.Where, kind api.Kind, e api.Errno) {
	t.Helper()
	p := source(t, decls+"(set x "+expr+")")
	if got, gotE := typed.KindOf(p, len(p.Exprs)-1, w); got != kind || gotE != e {
		t.Errorf("%s%s, %d: %d, %d, not %d, %d", decls, expr, w, got, gotE, kind, e)
	}
}

func places() []typed.Where {
	return []typed.Where{typed.InScalar, typed.InNode, typed.InPush, typed.InPull}
}

func TestPlacesAreNumbered(t *testing.T) {
	for i, w := range append([]typed.Where{typed.NoWhere}, places()...) {
		if int(w) != i {
			t.Error(w, i)
		}
	}
}

// standing are expressions, with their kind, and 1 for each place from InScalar on in which they may stand.
func standing() [][3]string {
	return [][3]string{
		{"5", "i", "1111"}, {"-9223372036854775808", "i", "1111"}, {"0", "i", "1111"}, {"1", "i", "1111"}, {"true", "b", "1111"}, {"false", "b", "1111"},
		{"i", "i", "1111"}, {"b", "b", "1111"}, {"(count)", "i", "1111"},
		{"(own ni)", "i", "0110"}, {"(own nb)", "b", "0110"}, {"(id)", "i", "0110"}, {"(deg out)", "i", "0110"}, {"(deg in)", "i", "0110"},
		{"(via ei)", "i", "0011"}, {"(via eb)", "b", "0011"},
		{"(far ni)", "i", "0001"}, {"(far nb)", "b", "0001"}, {"(farid)", "i", "0001"},
		{"(+ 1 i)", "i", "1111"}, {"(not b)", "b", "1111"}, {"(if b i (count))", "i", "1111"},
		{"(+ 1 (own ni))", "i", "0110"}, {"(+ (id) (via ei))", "i", "0010"}, {"(= (via eb) (far nb))", "b", "0001"}, {"(+ (own ni) (far ni))", "i", "0000"}, {"(< (id) (farid))", "b", "0000"},
		{"(if (own nb) 1 2)", "i", "0110"}, {"(if b (deg in) 2)", "i", "0110"}, {"(if b 1 (id))", "i", "0110"}, {"(if (via eb) (own ni) (deg out))", "i", "0010"}, {"(not (not (not (far nb))))", "b", "0001"},
		{"(+ 1 (+ 2 (+ 3 (+ 4 (+ 5 (+ 6 (+ 7 (+ 8 (+ 9 (own ni))))))))))", "i", "0110"}, {"(+ (+ (+ (+ (+ (+ (+ (+ (+ (farid) 1) 2) 3) 4) 5) 6) 7) 8) 9)", "i", "0001"},
	}
}

func kindOf(letter string) api.Kind {
	return map[string]api.Kind{"i": api.Int, "b": api.Bool}[letter]
}

func TestP11_1EachExpressionAtEachPlace(t *testing.T) {
	for _, c := range standing() {
		for i, w := range places() {
			if c[2][i] == '1' {
				wantKind(t, head, c[0], w, kindOf(c[1]), api.OK)
			} else {
				wantKind(t, head, c[0], w, api.NoKind, api.ErrType)
			}
		}
		for _, w := range []typed.Where{typed.NoWhere, typed.InPull + 1, 6, 77, 128, 255} {
			wantKind(t, head, c[0], w, api.NoKind, api.ErrRange)
		}
	}
}

func TestP11_1NamesAsDeclared(t *testing.T) {
	for side, letter := range map[api.Side]string{api.Scalar: "", api.OfNode: "n", api.OfEdge: "e"} {
		for _, kind := range []string{"int", "bool"} {
			decl := "(" + letter + kind + " a) "
			for expr, of := range map[string]api.Side{"a": api.Scalar, "(own a)": api.OfNode, "(far a)": api.OfNode, "(via a)": api.OfEdge} {
				w := map[string]typed.Where{"a": typed.InScalar, "(own a)": typed.InPush, "(far a)": typed.InPull, "(via a)": typed.InPush}[expr]
				if of == side {
					wantKind(t, decl, expr, w, kindOf(kind[:1]), api.OK)
				} else {
					wantKind(t, decl, expr, w, api.NoKind, api.ErrType)
				}
				wantKind(t, "", expr, w, api.NoKind, api.ErrType)
				wantKind(t, "("+letter+kind+" aa) ("+letter+kind+" b) ", expr, w, api.NoKind, api.ErrType)
			}
		}
	}
	// One name on all sides, of unlike kinds.
	all := "(int a) (nbool a) (eint a) "
	wantKind(t, all, "(= a 1)", typed.InPush, api.Bool, api.OK)
	wantKind(t, all, "(= (own a) true)", typed.InPush, api.Bool, api.OK)
	wantKind(t, all, "(if (own a) a (via a))", typed.InPush, api.Int, api.OK)
	wantKind(t, all, "(if (far a) a (via a))", typed.InPull, api.Int, api.OK)
	wantKind(t, all, "(= (own a) a)", typed.InPush, api.NoKind, api.ErrType)
}

func TestP11_1PartsThatAreNotDeclared(t *testing.T) {
	for _, expr := range []string{"(+ 1 z)", "(+ z 1)", "(+ z z)", "(= z z)", "(not z)", "(if z 1 2)", "(if true z 1)", "(if true 1 z)", "(if true z z)", "(and b (or b (= z z)))", "(= (own z) (own z))", "(= (via z) (via z))", "(= (own i) (own i))", "(= ni ni)", "(= (own ei) 1)", "(= (via ni) 1)"} {
		for _, w := range places() {
			wantKind(t, head, expr, w, api.NoKind, api.ErrType)
		}
	}
	wantKind(t, head, "(= (far z) (far z))", typed.InPull, api.NoKind, api.ErrType)
}

// Of a key that is declared twice it is the first declaration.
func TestP11_1DeclaredTwice(t *testing.T) {
	wantKind(t, "(int a) (bool a) ", "a", typed.InScalar, api.Int, api.OK)
	wantKind(t, "(bool a) (int a) ", "a", typed.InScalar, api.Bool, api.OK)
	wantKind(t, "(nint a) (bool a) (nbool a) ", "(own a)", typed.InNode, api.Int, api.OK)
	wantKind(t, "(ebool a) (nint a) (eint a) ", "(via a)", typed.InPull, api.Bool, api.OK)
}

// operations are their words, and of which kinds they are; behind a colon the kind that comes of these.
func operations() map[string]string {
	all := map[string]string{"=": "ii:b bb:b", "<": "ii:b", "not": "b:b", "and": "bb:b", "or": "bb:b", "if": "bii:i bbb:b", "narrow": "ii:i"}
	for _, word := range strings.Fields("+ - * / % min max shl shr & | ^") {
		all[word] = "ii:i"
	}
	return all
}

func TestP11_1EachOperationOfEachKind(t *testing.T) {
	ways := [][2]string{{"1", "true"}, {"0", "false"}, {"i", "b"}, {"(count)", "(not true)"}, {"(+ 1 2)", "(< 1 2)"}, {"(own ni)", "(own nb)"}, {"(via ei)", "(via eb)"}, {"(deg in)", "(= 1 2)"}}
	if len(operations()) != int(api.LastOp) {
		t.Fatal("operations are missing")
	}
	for word, rule := range operations() {
		many := strings.Index(rule, ":")
		proof.Rows(many, []string{"i", "b"}, func(row []string) {
			if len(row) != many {
				return
			}
			_, kind, fits := strings.Cut(" "+rule, " "+strings.Join(row, "")+":")
			for i := range ways {
				expr := "(" + word
				for j, letter := range row {
					expr += " " + ways[(i+j)%len(ways)][strings.Index("ib", letter)]
				}
				if expr += ")"; fits {
					wantKind(t, head, expr, typed.InPush, kindOf(kind[:1]), api.OK)
				} else {
					wantKind(t, head, expr, typed.InPush, api.NoKind, api.ErrType)
				}
			}
		})
	}
}

// What does not fit does not, however deep it stands, and wherever.
func TestP11_1PartsThatDoNotFit(t *testing.T) {
	for _, wrong := range []string{"(+ 1 true)", "(not 1)", "(if 1 2 3)", "(if true 1 false)", "(= 1 true)", "(< true false)", "(and true 1)", "(narrow true 8)"} {
		for _, around := range []string{"(= %s %s)", "(if true %s %s)", "(not (= %s %s))", "(if (= %s %s) 1 2)", "(+ 1 (if (= %s %s) 1 2))", "(or b (= %s %s))", "(and (not (not (= %s %s))) b)"} {
			for _, w := range places() {
				wantKind(t, head, fmt.Sprintf(around, wrong, wrong), w, api.NoKind, api.ErrType)
			}
		}
	}
}

// A part fits, or not, for itself: the kind of what it stands in, and its fault, are of no matter.
func TestP11_1PlacesInOneProgram(t *testing.T) {
	p := source(t, head+"(set i (+ (own ni) (not b))) (each (put ni (if (far nb) 1 z)))")
	want := []struct {
		kind  api.Kind
		where string
	}{{api.Int, "0110"}, {api.Bool, "1111"}, {api.Bool, "1111"}, {api.NoKind, "0000"}, {api.Bool, "0001"}, {api.Int, "1111"}, {api.NoKind, "0000"}, {api.NoKind, "0000"}}
	for at, c := range want {
		for i, w := range places() {
			kind, e := c.kind, api.OK
			if c.where[i] == '0' {
				kind, e = api.NoKind, api.ErrType
			}
			if got, gotE := typed.KindOf(p, at, w); got != kind || gotE != e {
				t.Errorf("%d, %d: %d, %d, not %d, %d", at, w, got, gotE, kind, e)
			}
		}
	}
}

func TestP11_1NoPlace(t *testing.T) {
	for _, text := range []string{"", head, head + "(set i (+ 1 2))", "(set z (own q))", "(while true)"} {
		p := source(t, text)
		for _, e := range []int{-1, -2, len(p.Exprs), len(p.Exprs) + 1, math.MaxInt, math.MinInt} {
			for w := range 256 {
				if kind, wrong := typed.KindOf(p, e, typed.Where(w)); kind != api.NoKind || wrong != api.ErrForm {
					t.Errorf("%q, %d, %d: %d, %d", text, e, w, kind, wrong)
				}
			}
		}
	}
}

func TestP11_4WhatStandsInScalarStandsEverywhere(t *testing.T) {
	found := 0
	programs(t, func(p api.Program) {
		for e := range p.Exprs {
			kind, wrong := typed.KindOf(p, e, typed.InScalar)
			if wrong != api.OK {
				continue
			}
			found++
			for _, w := range places() {
				if got, wrong := typed.KindOf(p, e, w); got != kind || wrong != api.OK {
					t.Errorf("%v, %d, %d: %d, %d, not %d", p, e, w, got, wrong, kind)
				}
			}
		}
	})
	if found < 5000 {
		t.Error("too few stand InScalar:", found)
	}
}
