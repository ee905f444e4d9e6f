package typed_test

import (
	"fmt"
	"strings"
	"testing"

	"reticule/api"
	"reticule/num"
	"reticule/proof"
	"reticule/scope"
	"reticule/typed"
)

func wantCheck(t *testing.T, text string, at int, e api.Errno) {
	t.Helper()
	if gotAt, got := typed.Check(source(t, text)); gotAt != at || got != e {
		t.Errorf("%s: %d, %d, not %d, %d", text, gotAt, got, at, e)
	}
}

// wantFit asks of each statement, alone and behind one that fits, whether it does.
func wantFit(t *testing.T, fits bool, stmts ...string) {
	t.Helper()
	for _, s := range stmts {
		if fits {
			wantCheck(t, head+s, 0, api.OK)
			wantCheck(t, head+"(set i 1) "+s, 0, api.OK)
		} else {
			wantCheck(t, head+s, 0, api.ErrType)
			wantCheck(t, head+"(set i 1) "+s, 1, api.ErrType)
		}
	}
}

func TestP11_2ProgramsThatFit(t *testing.T) {
	for _, text := range proof.Fitting() {
		wantCheck(t, text, 0, api.OK)
	}
	wantCheck(t, "(int a) (nint a) (eint a) (set a a) (each (put a (own a)))", 0, api.OK) // one name on all sides
	wantCheck(t, "(int true) (set true 3)", 0, api.OK)
	wantCheck(t, "(while true)", 0, api.OK)
	wantCheck(t, "(int a) (set a true)", 0, api.ErrType) // the chapter's example
}

func TestP11_2SetIt(t *testing.T) {
	wantFit(t, true, "(set i 1)", "(set i (+ i 2))", "(set b true)", "(set b (< i 1))", "(set i (count))")
	wantFit(t, false,
		"(set i true)", "(set b 1)", "(set b i)", "(set i b)", // its kind
		"(set z 1)", "(set z z)", "(set ni 1)", "(set ei 1)", "(set nb true)", // its name
		"(set i (own ni))", "(set i (far ni))", "(set i (via ei))", "(set i (id))", "(set i (farid))", "(set i (deg in))", // where it stands
		"(set i z)", "(set i ni)", "(set i (+ 1 b))") // its parts
}

func TestP11_2FoldIt(t *testing.T) {
	wantFit(t, true, "(fold i + 1)", "(fold i max (own ni))", "(fold i min (id))", "(fold i + (deg out) true)", "(fold b or (own nb))", "(fold b and b (own nb))", "(fold i + i (< (id) 2))")
	wantFit(t, false,
		"(fold i + true)", "(fold i + (own nb))", "(fold b or 1)", "(fold b or (own ni))", // its kind
		"(fold z + 1)", "(fold z or true)", "(fold ni + 1)", "(fold ei + 1)", // its name
		"(fold i or 1)", "(fold i and (own ni))", "(fold b + true)", "(fold b max (own nb))", "(fold b min b)", // its operation
		"(fold i or true)", "(fold b + 1)",
		"(fold i + (far ni))", "(fold i + (farid))", "(fold i + (via ei))", "(fold b or (via eb))", // where it stands
		"(fold i + 1 1)", "(fold i + 1 (own ni))", "(fold i + 1 z)", "(fold i + 1 (far nb))", "(fold i + 1 (via eb))", "(fold b or true i)", // its condition
		"(fold i + z)", "(fold i + (+ 1 true))")
}

func TestP11_2PutIt(t *testing.T) {
	wantFit(t, true, "(each (put ni 1))", "(each (put ni (own ni)))", "(each (put nb (own nb) (own nb)))", "(each (put ni (id) true))", "(each (put nb b (< (deg in) i)))")
	wantFit(t, false,
		"(each (put ni true))", "(each (put nb 1))", "(each (put nb (own ni)))", "(each (put ni (own nb)))", // its kind
		"(each (put z 1))", "(each (put i 1))", "(each (put ei 1))", "(each (put z z))", // its name
		"(each (put ni (via ei)))", "(each (put ni (far ni)))", "(each (put ni (farid)))", // where it stands
		"(each (put ni 1 1))", "(each (put ni 1 (own ni)))", "(each (put ni 1 (via eb)))", "(each (put ni 1 (far nb)))", "(each (put ni 1 z))") // its condition
}

func TestP11_2PushIt(t *testing.T) {
	wantFit(t, true, "(each (push ni + out 1))", "(each (push ni max in (own ni)))", "(each (push ni min out (via ei)))", "(each (push nb or in (via eb) (own nb)))", "(each (push nb and out (own nb) b))", "(each (push ni + out (+ (id) (via ei)) (= 1 (deg in))))")
	wantFit(t, false,
		"(each (push ni + out true))", "(each (push nb or out 1))", "(each (push ni + out (via eb)))", "(each (push nb or out (own ni)))", // its kind
		"(each (push z + out 1))", "(each (push i + out 1))", "(each (push ei + out 1))", "(each (push b or out b))", // its name
		"(each (push ni or out 1))", "(each (push ni and in 1))", "(each (push nb + out true))", "(each (push nb max in b))", "(each (push nb min out b))", // its operation
		"(each (push ni + out (far ni)))", "(each (push ni + in (farid)))", "(each (push nb or in (far nb)))", // where it stands
		"(each (push ni + out 1 1))", "(each (push ni + out 1 (via eb)))", "(each (push ni + out 1 (far nb)))", "(each (push ni + out 1 (own ni)))", "(each (push ni + out 1 z))", "(each (push nb or in b 0))") // its condition
}

func TestP11_2PullIt(t *testing.T) {
	wantFit(t, true, "(each (pull ni + out 1))", "(each (pull ni max in (far ni)))", "(each (pull ni min out (via ei)))", "(each (pull nb or in (via eb)))", "(each (pull nb and out (far nb)))", "(each (pull ni + out (* (farid) (via ei))))")
	wantFit(t, false,
		"(each (pull ni + out true))", "(each (pull nb or out 1))", "(each (pull ni + out (via eb)))", "(each (pull nb or out (far ni)))", // its kind
		"(each (pull z + out 1))", "(each (pull i + out 1))", "(each (pull ei + out 1))", "(each (pull b or out b))", // its name
		"(each (pull ni or out 1))", "(each (pull ni and in 1))", "(each (pull nb + out true))", "(each (pull nb max in b))", "(each (pull nb min out b))", // its operation
		"(each (pull ni + out (own ni)))", "(each (pull ni + in (id)))", "(each (pull ni + in (deg out)))", "(each (pull nb or in (own nb)))", // where it stands
		"(each (pull ni + out z))")
}

func TestP11_2EachActMustFit(t *testing.T) {
	good, wrong := "(put ni 1)", "(put ni true)"
	for many := 1; many <= api.MaxActs; many++ {
		wantFit(t, true, "(each"+strings.Repeat(" "+good, many)+")")
		for at := range many {
			acts := strings.Repeat(" "+good, at) + " " + wrong + strings.Repeat(" "+good, many-1-at)
			wantFit(t, false, "(each"+acts+")")
		}
	}
}

func TestP11_2IfItWhileItLoopIt(t *testing.T) {
	for _, form := range []string{"(if %s () ())", "(while %s)", "(loop %s)"} {
		for _, e := range []string{"true", "b", "(< i 3)", "(not (= b true))"} {
			wantFit(t, true, fmt.Sprintf(form, e))
		}
		for _, e := range []string{"1", "0", "i", "z", "(count)", "(own nb)", "(far nb)", "(via eb)", "nb", "(= (id) 1)", "(not 1)", "(if b 1 2)"} {
			wantFit(t, false, fmt.Sprintf(form, e))
		}
	}
}

func TestP11_2BfsIt(t *testing.T) {
	wantFit(t, true, "(bfs ni 0)", "(bfs ni i)", "(bfs ni (- (count) 1))")
	wantFit(t, false,
		"(bfs nb 0)", "(bfs nb true)", "(bfs z 0)", "(bfs i 0)", "(bfs ei 0)", // its column
		"(bfs ni true)", "(bfs ni b)", "(bfs ni z)", "(bfs ni (own ni))", "(bfs ni (id))", "(bfs ni (via ei))", "(bfs ni (far ni))", "(bfs ni (+ i b))")
}

func TestP11_2OpFits(t *testing.T) {
	for _, form := range []string{"(fold %c %s %s)", "(each (push n%c %s out %s))", "(each (pull n%c %s in %s))"} {
		for _, word := range []string{"+", "min", "max"} {
			wantFit(t, true, fmt.Sprintf(form, 'i', word, "1"))
			wantFit(t, false, fmt.Sprintf(form, 'b', word, "true"), fmt.Sprintf(form, 'b', word, "1"), fmt.Sprintf(form, 'i', word, "true"))
		}
		for _, word := range []string{"and", "or"} {
			wantFit(t, true, fmt.Sprintf(form, 'b', word, "true"))
			wantFit(t, false, fmt.Sprintf(form, 'i', word, "1"), fmt.Sprintf(form, 'b', word, "1"), fmt.Sprintf(form, 'i', word, "true"))
		}
	}
}

// All other operations, and numbers that are none, make a program that is not sound.
func TestP11_2OpsThatAreNoneOfThese(t *testing.T) {
	for _, text := range []string{"(fold i + 1)", "(each (push ni + out 1))", "(each (pull ni + out 1))", "(fold b or b)"} {
		for o := range 256 {
			p := source(t, head+text)
			if _, takes := map[api.Op]int{api.Add: 1, api.Min: 1, api.Max: 1, api.And: 1, api.Or: 1}[api.Op(o)]; takes {
				continue
			}
			if p.Stmts[0].Op = api.Op(o); len(p.Stmts[0].Acts) > 0 {
				p.Stmts[0].Op, p.Stmts[0].Acts[0].Op = 0, api.Op(o)
			}
			if at, e := typed.Check(p); at != -1 || e != api.ErrForm {
				t.Errorf("%s, %d: %d, %d", text, o, at, e)
			}
		}
	}
}

func TestP11_2WhatIsDeclaredTwice(t *testing.T) {
	for _, decls := range []string{"(int a) (int a)", "(int a) (bool a)", "(nint a) (int a) (nbool a)", "(eint c) (ebool c) (eint c)"} {
		wantCheck(t, decls, -1, api.ErrType)
		wantCheck(t, decls+"(while true)", -1, api.ErrType)
		wantCheck(t, decls+"(while 1)", -1, api.ErrType)
	}
	wantCheck(t, "(int a) (int a) (set a 1)", -1, api.ErrType)
	var many string
	for i := range api.MaxNames - 1 {
		many += fmt.Sprintf("(int v%d) ", i)
	}
	wantCheck(t, many+"(bool c) (set c true)", 0, api.OK)
	wantCheck(t, many+"(bool v0) (while 1)", -1, api.ErrType)
}

func TestP11_2WhichStatementIsFirst(t *testing.T) {
	for text, at := range map[string]int{
		"(set i true)":                                                                  0,
		"(set i 1) (set i true)":                                                        1,
		"(set i 1) (set i true) (set z 1) (while 1)":                                    1,
		"(set i 1) (set i 2) (set i 3) (bfs z 0)":                                       3,
		"(if 1 ((set i true)) ())":                                                      0, // those in it stand ahead of it
		"(if 1 ((set i 1)) ())":                                                         1,
		"(if 1 ((set i 1)) ((set i 2)))":                                                2,
		"(if 1 ((set i 1)) ((set i b)))":                                                1,
		"(if b ((set i b)) ((set i b)))":                                                0,
		"(if b () ((set i 1) (set b 1)))":                                               1,
		"(while 1 (set i 1) (loop 2 (set i 2) (bfs nb 0 (set i 3))))":                   3,
		"(while 1 (set i 1) (loop 2 (set i 2) (bfs ni 0 (set i 3))))":                   4,
		"(while 1 (set i 1) (loop b (set i 2) (bfs ni 0 (set i 3))))":                   5,
		"(while b (set i 1) (loop b (set i 2) (bfs ni 0 (each (put ni 1) (put z 1)))))": 2,
		"(while b (set i 1)) (each (put ni b)) (each (put nb b)) (fold i or b)":         2,
	} {
		wantCheck(t, head+text, at, api.ErrType)
	}
}

// value reckons an expression over columns, and tells what is wrong: a name that is not there, a truth that is neither 0 nor 1.
func value(p api.Program, at int, cols map[api.Key]api.Word, wrong *string) api.Word {
	e := p.Exprs[at]
	switch e.Kind {
	case api.Lit:
		return e.Num
	case api.Var, api.Own, api.Far, api.Via:
		key := api.Key{Name: e.Name, Side: map[api.ExprKind]api.Side{api.Var: api.Scalar, api.Own: api.OfNode, api.Far: api.OfNode, api.Via: api.OfEdge}[e.Kind]}
		w, is := cols[key]
		if !is {
			*wrong = "no " + e.Name
		}
		return w
	case api.Call:
		var l []api.Word
		for _, kid := range e.Kids {
			l = append(l, value(p, kid, cols, wrong))
		}
		truths := map[api.Op]int{api.Not: 1, api.And: 2, api.Or: 2, api.If: 1}[e.Op]
		for _, w := range l[:truths] {
			truth(w, wrong)
		}
		w, _ := num.Do(e.Op, l...)
		return w
	}
	return 2 // a node's number, a degree, how many nodes there are
}

func truth(w api.Word, wrong *string) {
	if w != 0 && w != 1 {
		*wrong = fmt.Sprint("a truth is ", w)
	}
}

// stays tells whether what is written into a column of truths is one, if it is put (NoOp), or taken in.
func stays(p api.Program, key api.Key, o api.Op, w api.Word, cols map[api.Key]api.Word, wrong *string) {
	was, is := cols[key]
	if !is {
		*wrong = "no " + key.Name
	}
	if o != api.NoOp {
		w, _ = num.Do(o, was, w)
	}
	if scope.KindOf(p.Decls, key) == api.Bool {
		truth(w, wrong)
	}
}

// reckoned tells what is wrong with a statement over columns.
func reckoned(p api.Program, s api.Stmt, cols map[api.Key]api.Word) (wrong string) {
	cond := func(at int) {
		if at >= 0 {
			truth(value(p, at, cols, &wrong), &wrong)
		}
	}
	switch s.Kind {
	case api.SetIt, api.FoldIt:
		stays(p, api.Key{Name: s.Name, Side: api.Scalar}, s.Op, value(p, s.E, cols, &wrong), cols, &wrong)
		cond(s.Cond)
	case api.EachIt:
		for _, a := range s.Acts {
			stays(p, api.Key{Name: a.Name, Side: api.OfNode}, a.Op, value(p, a.E, cols, &wrong), cols, &wrong)
			cond(a.Cond)
		}
	case api.BfsIt:
		value(p, s.E, cols, &wrong)
		stays(p, api.Key{Name: s.Name, Side: api.OfNode}, api.NoOp, -1, cols, &wrong)
	default:
		cond(s.E)
	}
	return wrong
}

func TestP11_3WhatFitsFindsItsNamesAndTruths(t *testing.T) {
	programs(t, func(p api.Program) {
		if _, e := typed.Check(p); e != api.OK {
			return
		}
		if k, is := scope.Missing(p); is {
			t.Errorf("%v fits without %v", p, k)
		}
		for i := range 6 {
			cols := map[api.Key]api.Word{}
			for at, d := range p.Decls {
				if w := []api.Word{-7, 2, 100}[(i+at)%3]; d.Kind == api.Int {
					cols[api.Key{Name: d.Name, Side: d.Side}] = w
				} else {
					cols[api.Key{Name: d.Name, Side: d.Side}] = api.Word((i + at) / 3 % 2)
				}
			}
			for at, s := range p.Stmts {
				if wrong := reckoned(p, s, cols); wrong != "" {
					t.Errorf("%v, %d: %s", p, at, wrong)
				}
			}
		}
	})
}

func TestP3WhatIsHandedInStays(t *testing.T) {
	for _, text := range append(proof.Fitting(), proof.Sources()...) {
		p := proof.Program(source(t, text))
		want := proof.Whole(p)
		typed.Check(p)
		for e := range p.Exprs {
			for w := range typed.Where(6) {
				typed.KindOf(p, e, w)
			}
		}
		if proof.Whole(p) != want {
			t.Errorf("%q is changed", text)
		}
	}
}

// P6, E1: what was asked ahead is of no matter.
func TestP6NothingIsKeptBetweenCalls(t *testing.T) {
	for range 3 {
		wantCheck(t, head+"(set i true)", 0, api.ErrType)
		wantCheck(t, head+"(set i 1)", 0, api.OK)
		wantCheck(t, "(set i 1)", 0, api.ErrType)
		wantKind(t, "(bool i) ", "i", typed.InScalar, api.Bool, api.OK)
		wantKind(t, "(int i) ", "i", typed.InScalar, api.Int, api.OK)
		wantKind(t, "", "i", typed.InScalar, api.NoKind, api.ErrType)
	}
}
