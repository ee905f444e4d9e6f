package prog

import (
	"fmt"
	"math"
	"slices"
	"strings"
	"testing"

	"reticule/api"
	"reticule/lex"
	"reticule/tree"
)

var (
	_ func(l []api.Form, top []int) (api.Program, int, api.Errno) = Read
	_ func(api.Program) ([]api.Form, []int, api.Errno)            = Write
	_ func(api.Program) bool                                      = Sound
	_ func(string) (api.Program, int, api.Errno)                  = Source
	_ func(api.Program) (string, api.Errno)                       = Text
	_ func(api.Op) string                                         = OpWord
	_ func(string) (api.Op, bool)                                 = ReadOp
	_ func(p, q api.Program) bool                                 = Same
)

func source(t *testing.T, text string) api.Program {
	t.Helper()
	p, at, e := Source(text)
	if at != 0 || e != api.OK {
		t.Fatalf("%q is no program: %d, %d", text, at, e)
	}
	return p
}

func formsOf(t *testing.T, text string) ([]api.Form, []int) {
	t.Helper()
	tokens, _, e := lex.Tokens(text)
	l, top, _, f := tree.Parse(tokens)
	if e != api.OK || f != api.OK {
		t.Fatalf("%q has no forms: %d, %d", text, e, f)
	}
	return l, top
}

func lit(n api.Word) api.Expr                    { return api.Expr{Kind: api.Lit, Of: api.Int, Num: n} }
func truth(n api.Word) api.Expr                  { return api.Expr{Kind: api.Lit, Of: api.Bool, Num: n} }
func of(kind api.ExprKind, name string) api.Expr { return api.Expr{Kind: kind, Name: name} }
func call(o api.Op, kids ...int) api.Expr        { return api.Expr{Kind: api.Call, Op: o, Kids: kids} }
func exprs(l ...api.Expr) []api.Expr             { return l }
func set(name string, e int) api.Stmt            { return api.Stmt{Kind: api.SetIt, Name: name, E: e, Cond: -1} }
func region(acts ...api.Act) api.Stmt            { return api.Stmt{Kind: api.EachIt, E: -1, Cond: -1, Acts: acts} }
func put(name string, e, cond int) api.Act {
	return api.Act{Kind: api.PutIt, Name: name, E: e, Cond: cond}
}
func loop(kind api.StmtKind, e int, l []int) api.Stmt {
	return api.Stmt{Kind: kind, E: e, Cond: -1, Then: l}
}

func wantRead(t *testing.T, text string, decls []api.Decl, exprs []api.Expr, stmts []api.Stmt, main ...int) {
	t.Helper()
	p, at, e := Source(text)
	if want := (api.Program{Decls: decls, Exprs: exprs, Stmts: stmts, Main: main}); dump(p) != dump(want) || at != 0 || e != api.OK {
		t.Errorf("%q: %d, %d, %s, not %s", text, at, e, dump(p), dump(want))
	}
	l, top := formsOf(t, text)
	if q, at, e := Read(l, top); dump(p) != dump(q) || at != 0 || e != api.OK {
		t.Errorf("%q: %d, %d, %s, not %s", text, at, e, dump(q), dump(p))
	}
}

func TestP9_1Declarations(t *testing.T) {
	wantRead(t, "", nil, nil, nil)
	wantRead(t, "; no program\n", nil, nil, nil)
	wantRead(t, "(int a)", []api.Decl{{Name: "a", Side: api.Scalar, Kind: api.Int}}, nil, nil)
	wantRead(t, "(ebool e8) (int a)(bool a) (nint bcdefghi) (nbool int) (eint true) (int a)", []api.Decl{
		{Name: "e8", Side: api.OfEdge, Kind: api.Bool}, {Name: "a", Side: api.Scalar, Kind: api.Int}, {Name: "a", Side: api.Scalar, Kind: api.Bool}, {Name: "bcdefghi", Side: api.OfNode, Kind: api.Int},
		{Name: "int", Side: api.OfNode, Kind: api.Bool}, {Name: "true", Side: api.OfEdge, Kind: api.Int}, {Name: "a", Side: api.Scalar, Kind: api.Int},
	}, nil, nil)
}

func TestP9_1Statements(t *testing.T) {
	zero := exprs(lit(0))
	wantRead(t, "(int a) (set a (+ 1 2))", []api.Decl{{Name: "a", Side: api.Scalar, Kind: api.Int}}, exprs(lit(1), lit(2), call(api.Add, 0, 1)), []api.Stmt{set("a", 2)}, 0)
	wantRead(t, "(set a 0)", nil, zero, []api.Stmt{set("a", 0)}, 0)
	for word, o := range map[string]api.Op{"+": api.Add, "min": api.Min, "max": api.Max, "and": api.And, "or": api.Or} {
		wantRead(t, "(fold a "+word+" 0)", nil, zero, []api.Stmt{{Kind: api.FoldIt, Name: "a", Op: o, E: 0, Cond: -1}}, 0)
		wantRead(t, "(fold a "+word+" 0 b)", nil, exprs(lit(0), of(api.Var, "b")), []api.Stmt{{Kind: api.FoldIt, Name: "a", Op: o, E: 0, Cond: 1}}, 0)
		wantRead(t, "(each (pull a "+word+" in 0))", nil, zero, []api.Stmt{region(api.Act{Kind: api.PullIt, Name: "a", Op: o, In: true, Cond: -1})}, 0)
		wantRead(t, "(each (push a "+word+" out 0 0))", nil, exprs(lit(0), lit(0)), []api.Stmt{region(api.Act{Kind: api.PushIt, Name: "a", Op: o, Cond: 1})}, 0)
	}
	wantRead(t, "(each (push a + in 0))", nil, zero, []api.Stmt{region(api.Act{Kind: api.PushIt, Name: "a", Op: api.Add, In: true, Cond: -1})}, 0)
	wantRead(t, "(each (pull a + out 0))", nil, zero, []api.Stmt{region(api.Act{Kind: api.PullIt, Name: "a", Op: api.Add, Cond: -1})}, 0)
	wantRead(t, "(each (put a 0))", nil, zero, []api.Stmt{region(put("a", 0, -1))}, 0)
	wantRead(t, "(each (put a 0 true))", nil, exprs(lit(0), truth(1)), []api.Stmt{region(put("a", 0, 1))}, 0)
	wantRead(t, "(if 0 () ())", nil, zero, []api.Stmt{loop(api.IfIt, 0, nil)}, 0)
	wantRead(t, "(while 0) (loop 0)", nil, exprs(lit(0), lit(0)), []api.Stmt{loop(api.WhileIt, 0, nil), loop(api.LoopIt, 1, nil)}, 0, 1)
	wantRead(t, "(bfs a 0)", nil, zero, []api.Stmt{{Kind: api.BfsIt, Name: "a", E: 0, Cond: -1}}, 0)
	wantRead(t, "(bfs a 0 (set b 1) (set c 2))", nil, exprs(lit(0), lit(1), lit(2)), []api.Stmt{set("b", 1), set("c", 2), {Kind: api.BfsIt, Name: "a", E: 0, Cond: -1, Then: []int{0, 1}}}, 2)
}

func TestP9_1Expressions(t *testing.T) {
	for text, want := range map[string]api.Expr{
		"0": lit(0), "-5": lit(-5), "9223372036854775807": lit(math.MaxInt64), "-9223372036854775808": lit(math.MinInt64),
		"true": truth(1), "false": truth(0), "a": of(api.Var, "a"), "min": of(api.Var, "min"), "if": of(api.Var, "if"), "own": of(api.Var, "own"), "truex": of(api.Var, "truex"), "z9999999": of(api.Var, "z9999999"),
		"(own a)": of(api.Own, "a"), "(far b)": of(api.Far, "b"), "(via true)": of(api.Via, "true"), "(own own)": of(api.Own, "own"),
		"(id)": of(api.Id, ""), "(farid)": of(api.FarId, ""), "(count)": of(api.Count, ""), "(deg out)": of(api.Deg, ""), "(deg in)": {Kind: api.Deg, Num: 1},
	} {
		wantRead(t, "(set x "+text+")", nil, exprs(want), []api.Stmt{set("x", 0)}, 0)
		wantRead(t, "(each (put x 7 "+text+"))", nil, exprs(lit(7), want), []api.Stmt{region(put("x", 0, 1))}, 0)
	}
	for i, word := range plainOps() {
		switch o := api.Op(i + 1); o {
		case api.Not:
			wantRead(t, "(set x ("+word+" 4))", nil, exprs(lit(4), call(o, 0)), []api.Stmt{set("x", 1)}, 0)
		case api.If:
			wantRead(t, "(set x ("+word+" 4 5 6))", nil, exprs(lit(4), lit(5), lit(6), call(o, 0, 1, 2)), []api.Stmt{set("x", 3)}, 0)
		default:
			wantRead(t, "(set x ("+word+" 4 5))", nil, exprs(lit(4), lit(5), call(o, 0, 1)), []api.Stmt{set("x", 2)}, 0)
		}
	}
}

func TestP9_1ListsStandAsTheyCome(t *testing.T) {
	wantRead(t, "(set x (if (< (own a) 1) (not b) (+ (+ 2 3) (id))))", nil, exprs(
		of(api.Own, "a"), lit(1), call(api.Lt, 0, 1), of(api.Var, "b"), call(api.Not, 3), lit(2), lit(3), call(api.Add, 5, 6), of(api.Id, ""), call(api.Add, 7, 8), call(api.If, 2, 4, 9),
	), []api.Stmt{set("x", 10)}, 0)
	wantRead(t, "(fold a + (- 1 2) (= 3 4)) (each (put b (* 5 6) (< 7 8)) (push c or in 9 10) (pull d and out 11))", nil, exprs(
		lit(1), lit(2), call(api.Sub, 0, 1), lit(3), lit(4), call(api.Eq, 3, 4), lit(5), lit(6), call(api.Mul, 6, 7), lit(7), lit(8), call(api.Lt, 9, 10), lit(9), lit(10), lit(11),
	), []api.Stmt{{Kind: api.FoldIt, Name: "a", Op: api.Add, E: 2, Cond: 5}, region(put("b", 8, 11), api.Act{Kind: api.PushIt, Name: "c", Op: api.Or, In: true, E: 12, Cond: 13}, api.Act{Kind: api.PullIt, Name: "d", Op: api.And, E: 14, Cond: -1})}, 0, 1)
	branch := loop(api.IfIt, 2, []int{1, 3})
	branch.Else = []int{5, 6}
	wantRead(t, "(set a 0) (if (not 1) ((set b 2) (while 3 (set c 4))) ((loop 5 (set d 6)) (set e 7))) (set f 8)", nil, exprs(
		lit(0), lit(1), call(api.Not, 1), lit(2), lit(3), lit(4), lit(5), lit(6), lit(7), lit(8),
	), []api.Stmt{set("a", 0), set("b", 3), set("c", 5), loop(api.WhileIt, 4, []int{2}), set("d", 7), loop(api.LoopIt, 6, []int{4}), set("e", 8), branch, set("f", 9)}, 0, 7, 8)
}

// wrongAt is a text in which ! stands ahead of the form that is wrong; that text without it, and the place.
func wrongAt(marked string) (string, int) {
	return strings.Replace(marked, "!", "", 1), strings.Index(marked, "!")
}

func wantSyntax(t *testing.T, marked string) {
	t.Helper()
	text, want := wrongAt(marked)
	p, at, e := Source(text)
	if e != api.ErrSyntax || at != want || dump(p) != dump(api.Program{}) {
		t.Errorf("%q: %d, %d, not at %d", text, at, e, want)
	}
	l, top := formsOf(t, text)
	for i := range l {
		l[i].At = 1000 - l[i].At // the place is the form's, whatever it is
	}
	if _, at, e := Read(l, top); e != api.ErrSyntax || at != 1000-want {
		t.Errorf("%q: %d, %d, not at %d", text, at, e, 1000-want)
	}
}

func TestP9_1KidsTooFewAndTooMany(t *testing.T) {
	for _, word := range []string{"int", "bool", "nint", "nbool", "eint", "ebool"} {
		wantSyntax(t, "!("+word+")")
		wantSyntax(t, "(int b) !("+word+" a b)")
	}
	for _, marked := range []string{
		"!(set)", "!(set a)", "!(set a 1 2)", "!(set a 1 (set b 2))", "!(fold)", "!(fold a)", "!(fold a +)", "!(fold a + 1 2 3)", "!(each)", "!(if)", "!(if 1)", "!(if 1 ())", "!(if 1 () () ())",
		"!(while)", "!(loop)", "!(bfs)", "!(bfs a)", "(while 1 !(set a))", "(loop 1 (set a 1) !(each))", "(bfs a 1 !(bfs a))", "(if 1 (!(set a)) ())", "(if 1 () (!(set a)))",
		"(each !(put))", "(each !(put a))", "(each !(put a 1 2 3))", "(each !(push))", "(each !(push a +))", "(each !(push a + out))", "(each !(push a + in 1 2 3))", "(each !(pull a + out))", "(each !(pull a + out 1 2))", "(each (put a 1) !(pull))",
	} {
		wantSyntax(t, marked)
	}
	for _, e := range []string{
		"!(own)", "!(far)", "!(via)", "!(own a b)", "!(far a b)", "!(via a b)", "!(id a)", "!(id 1)", "!(farid a)", "!(count 1)", "!(deg)", "!(deg out in)", "!(deg in 1)", "!()", "(+ 1 !())", "(+ 1 !(own))",
		"!(not)", "!(not 1 2)", "!(if 1 2)", "!(if 1 2 3 4)", "!(if)",
	} {
		wantSyntax(t, "(set a "+e+")")
		wantSyntax(t, "(each (push a + out "+e+"))")
		wantSyntax(t, "(each (push a + out 1 "+e+"))")
		wantSyntax(t, "(while "+e+")")
	}
	for _, word := range plainOps() {
		if word != "not" && word != "if" {
			wantSyntax(t, "(set a !("+word+"))")
			wantSyntax(t, "(set a !("+word+" 1))")
			wantSyntax(t, "(set a !("+word+" 1 2 3))")
		}
	}
}

func TestP9_1FirstWords(t *testing.T) {
	for _, marked := range []string{
		"!()", "!(a)", "!(1)", "!((int a))", "!(())", "!(+ 1 2)", "!(own a)", "!(put a 1)", "!(true)", "!(nset a 1)", "!(sets a 1)", "!(se a 1)", "!(enint a)", "!(1 set a 1)", "!(a set b 1)",
		"(while 1 !(int a))", "(if 1 (!(int a)) ())", "(if 1 () (!(nint a)))", "(bfs a 1 !(put a 1))", "(loop 1 !())", "(while 1 !((set a 1)))", "(if 1 (!((set a 1))) ())",
		"(each !())", "(each !(set a 1))", "(each !(each (put a 1)))", "(each !(own a))", "(each !((put a 1)))", "(each !(1))", "(each !(int a))",
		"(set a !(set a 1))", "(set a !(int a))", "(set a !(x))", "(set a !(true))", "(set a !((+) 1 2))", "(set a !(1 2 3))", "(set a !(var a))", "(set a !(lit 1))", "(set a !(put b 1))", "(set a !(ids))", "(set a !(out a))",
	} {
		wantSyntax(t, marked)
	}
}

func TestP9_1OpsAndWays(t *testing.T) {
	for _, word := range append(plainOps(), "a", "1", "true", "own", "(+)", "()", "out") {
		if !slices.Contains([]string{"+", "min", "max", "and", "or"}, word) {
			wantSyntax(t, "!(fold a "+word+" 1)")
			wantSyntax(t, "(each !(push a "+word+" out 1))")
			wantSyntax(t, "(each (put a 1) !(pull a "+word+" in 1))")
		}
	}
	for _, word := range []string{"a", "1", "true", "+", "(out)", "()", "outs", "i", "-1", "id"} {
		wantSyntax(t, "(each !(push a + "+word+" 1))")
		wantSyntax(t, "(each !(pull a + "+word+" 1))")
		wantSyntax(t, "(set a !(deg "+word+"))")
	}
}

func TestP9_1NoBracketWhereOneMustBe(t *testing.T) {
	for _, marked := range []string{
		"!a", "!1", "!+", "(int a) !a", "(set a 1) !true", "!(if 1 a ())", "!(if 1 () a)", "!(if 1 2 3)", "!(if 1 true false)", "(while 1 !(if 1 a (set b 1)))",
		"(each !a)", "(each (put a 1) !1)", "(each !put)", "(while 1 !a)", "(loop 1 (set a 1) !2)", "(bfs a 1 !set)", "(if 1 (!a) ())", "(if 1 () (!3))", "(if 1 (!set a 1) ())",
	} {
		wantSyntax(t, marked)
	}
}

func TestP9_1NamesAndWords(t *testing.T) {
	for _, wrong := range append(strings.Fields("+ - * / % & | ^ = < 1 -1 0"), "()", "(a)", "(own a)", "(set a 1)") {
		for _, marked := range []string{"(int !W)", "(nbool !W)", "(eint !W)", "(set !W 1)", "(fold !W + 1)", "(bfs !W 1)", "(each (put !W 1))", "(each (push !W + out 1))", "(each (pull !W + in 1))", "(set a (own !W))", "(set a (far !W))", "(each (put a 1 (via !W)))"} {
			wantSyntax(t, strings.Replace(marked, "W", wrong, 1))
		}
	}
	for _, word := range strings.Fields("+ - * / % & | ^ = <") {
		for _, marked := range []string{"(set a !W)", "(fold a + !W)", "(fold a + 1 !W)", "(if !W () ())", "(while !W)", "(loop !W)", "(bfs a !W)", "(each (put a !W))", "(each (put a 1 !W))", "(each (push a + out !W))", "(each (push a + out 1 !W))", "(each (pull a + out !W))", "(set a (not !W))", "(set a (+ 1 !W))", "(set a (if 1 2 !W))"} {
			wantSyntax(t, strings.Replace(marked, "W", word, 1))
		}
	}
}

func TestP9_1DeclarationsStandFirst(t *testing.T) {
	for _, marked := range []string{"(set a 1) !(int b)", "(int a) (set a 1) !(nint b)", "(each (put a 1)) !(ebool b) (int c)", "(if 1 () ()) !(int)", "(if 1 () ()) !(int 5)", "(while 1) (set a 1) !(bool a)"} {
		wantSyntax(t, marked)
	}
}

func TestP9_1WhichErrorComesFirst(t *testing.T) {
	for _, marked := range []string{
		// The first of several brackets.
		"!(set) (each)", "!a (set)", "(set a 1) !(set) (int b)", "(int !1) (int 2)", "(int a) !(int) (set)", "(set a 1) !(int b) b",
		// A bracket ahead of its parts.
		"!(set 1)", "!(set + + +)", "!(fold 1 - +)", "!(fold 1 2 3 4 5)", "!(if + 1 2)", "!(if + () 1)", "!(if (own) (set) (set a) 1)", "(each !(push 1 + up +))", "(each !(push 1 - out +))", "(each !(pull 1 + out 1 2))", "(set a !(+ (own) (own) 1))", "!(set (own))",
		// Parts from the left, each with all in it.
		"(set !1 +)", "(set a (+ !+ +))", "(set a (+ (not !+) +))", "(fold !1 + +)", "(fold a + !+ +)", "(fold a + 1 !+)", "(if !+ (set) (set))", "(if 1 (!(set)) ((set)))", "(if 1 (!set) (set))", "(if 1 () (!set))", "(while !+ (set))", "(while 1 (set a !+) (set))", "(bfs !1 + (set))", "(bfs a !+ (set))", "(bfs a 1 !(set) 1)",
		"(each (put !1 +) (put))", "(each (put a !+ +) 1)", "(each (put a 1 !+) 1)", "(each (put a 1) !1 (put))", "(each (push !1 + out +))", "(each (push a + out !+ +))", "(set a (own !+)) (set)", "(set a (if (own !1) (far) +))",
	} {
		wantSyntax(t, marked)
	}
}

func TestP9_1ErrForm(t *testing.T) {
	good, top := formsOf(t, "(int a) (set a (+ 1 2))")
	for i := range good {
		good[i].At += 7
	}
	deep := []api.Form{}
	for i := range 13 {
		deep = append(deep, api.Form{Kind: api.Open, Kids: []int{i + 1}, At: 9})
	}
	deep[12].Kids = nil
	for _, c := range []struct {
		l   []api.Form
		top []int
	}{
		{nil, []int{0}}, {good, nil}, {good, []int{0}}, {good, []int{3, 0}}, {good, []int{0, 3, 3}}, {good, []int{0, 3, 99}}, {good, []int{-1, 0, 3}}, {good[:len(good)-1], top}, {append(slices.Clone(good), api.Form{}), append(slices.Clone(top), len(good))},
		{deep, []int{0}}, {[]api.Form{{Kind: api.Name, Text: "A", At: 5}}, []int{0}}, {[]api.Form{{Kind: 9, At: 5}}, []int{0}}, {[]api.Form{{Kind: api.Open, Kids: []int{0}, At: 5}}, []int{0}}, {[]api.Form{{Kind: api.Open, Kids: []int{-1, 7, math.MaxInt}, At: 5}}, []int{0}},
	} {
		if p, at, e := Read(c.l, c.top); e != api.ErrForm || at != 0 || dump(p) != dump(api.Program{}) {
			t.Errorf("%v, %v: %d, %d, %s", c.l, c.top, at, e, dump(p))
		}
	}
	for _, c := range [][]api.Form{nil, {}} {
		if p, at, e := Read(c, nil); e != api.OK || at != 0 || dump(p) != dump(api.Program{}) {
			t.Error(at, e, dump(p))
		}
	}
}

func declarations(n int) string {
	var text strings.Builder
	for i := range n {
		fmt.Fprintf(&text, "(%s n%d) ", []string{"int", "bool", "nint", "nbool", "eint", "ebool"}[i%6], i)
	}
	return text.String()
}

func TestP9_1MaxNames(t *testing.T) {
	for _, n := range []int{0, 1, 23, 24, 25, 26, 60} {
		p, at, e := Source(declarations(n) + "(set a 1)")
		if n <= 24 && (len(p.Decls) != n || at != 0 || e != api.OK) || n > 24 && (e != api.ErrSpace || at != len(declarations(24)) || dump(p) != dump(api.Program{})) {
			t.Error(n, at, e, dump(p))
		}
	}
	// ErrSyntax is named ahead of ErrSpace.
	for _, marked := range []string{"!(set) " + declarations(25), declarations(24) + "!(int)", declarations(24) + "(int !1)", declarations(25) + "!(set)", declarations(25) + "(set a !+)", declarations(12) + "(set a 1) !" + declarations(13)} {
		wantSyntax(t, marked)
	}
}

func TestP9_1MaxActs(t *testing.T) {
	for n := range 10 {
		text := "(each" + strings.Repeat(" (put a 1)", n) + ")"
		p, at, e := Source(text)
		if is := 1 <= n && n <= 6; is && (len(p.Stmts[0].Acts) != n || e != api.OK) || !is && (at != 0 || e != api.ErrSyntax) {
			t.Error(n, at, e, dump(p))
		}
	}
	wantSyntax(t, "(set a 1) !(each 1 2 3 4 5 6 7)")
	wantSyntax(t, "(set a 1) (each !1 2 3 4 5 6)")
}
