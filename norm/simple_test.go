package norm_test

import (
	"testing"

	"reticule/api"
	"reticule/norm"
	"reticule/prog"
	"reticule/proof"
)

// Of each operation, whose kids are all known, or not.
func TestP18_5CallsOfEachOperation(t *testing.T) {
	for from, want := range map[string]string{
		"(+ 2 3)": "5", "(+ 9223372036854775807 1)": "-9223372036854775808", "(- 2 3)": "-1", "(* -4 5)": "-20", "(/ -7 2)": "-3", "(/ 7 0)": "0", "(/ -9223372036854775808 -1)": "-9223372036854775808",
		"(% -7 2)": "-1", "(% 7 0)": "0", "(min 3 -4)": "-4", "(max 3 -4)": "3", "(shl 1 62)": "4611686018427387904", "(shl 1 64)": "1", "(shr -8 1)": "-4", "(& 12 10)": "8", "(| 12 10)": "14", "(^ 12 10)": "6",
		"(narrow 8 200)": "-56", "(narrow 16 65535)": "-1", "(narrow 7 200)": "200",
		"(if true 1 2)": "1", "(if false 1 2)": "2",
		"(+ 2 i)": "(+ 2 i)", "(- i 3)": "(- i 3)", "(* i 0)": "(* i 0)", "(/ 0 i)": "(/ 0 i)", "(% i 1)": "(% i 1)", "(min i i)": "(min i i)", "(max i 3)": "(max i 3)", "(shl 0 i)": "(shl 0 i)", "(shr i 0)": "(shr i 0)",
		"(& i 0)": "(& i 0)", "(| 0 i)": "(| 0 i)", "(^ i i)": "(^ i i)", "(narrow 8 i)": "(narrow 8 i)", "(narrow i 8)": "(narrow i 8)", "(+ (count) 1)": "(+ (count) 1)", "(if b 1 1)": "(if b 1 1)",
	} {
		wantText(t, norm.Simple, proof.Head+"(set i "+from+")", proof.Head+"(set i "+want+")")
		wantText(t, norm.Simple, proof.Head+"(each (put ni "+from+"))", proof.Head+"(each (put ni "+want+"))")
	}
	for from, want := range map[string]string{
		"(= 1 1)": "true", "(= 1 2)": "false", "(= true true)": "true", "(= false true)": "false", "(< 1 2)": "true", "(< 2 2)": "false", "(< 3 -4)": "false", "(not true)": "false", "(not false)": "true",
		"(and true true)": "true", "(and true false)": "false", "(or false false)": "false", "(or false true)": "true", "(if true false true)": "false", "(if false false true)": "true",
		"(= 1 i)": "(= 1 i)", "(= i i)": "(= i i)", "(= b true)": "(= b true)", "(< i i)": "(< i i)", "(not b)": "(not b)", "(and b false)": "(and b false)", "(or true b)": "(or true b)", "(if b true true)": "(if b true true)",
	} {
		wantText(t, norm.Simple, proof.Head+"(set b "+from+")", proof.Head+"(set b "+want+")")
		wantText(t, norm.Simple, proof.Head+"(each (push nb or out "+from+" "+from+"))", proof.Head+"(each (push nb or out "+want+" "+want+"))")
		wantText(t, norm.Simple, proof.Head+"(fold b and "+from+" "+from+")", proof.Head+"(fold b and "+want+" "+want+")")
	}
}

// Calls within calls, from the innermost on; what stands in a kid that an If is not goes, whatever it is.
func TestP18_5CallsWithinCalls(t *testing.T) {
	for from, want := range map[string]string{
		"7": "7", "i": "i", "(count)": "(count)",
		"(+ (* 2 3) (- 4 5))": "5", "(+ (* 2 i) (- 4 5))": "(+ (* 2 i) -1)", "(+ 1 (+ 2 (+ 3 (+ 4 (+ 5 (+ 6 7))))))": "28", "(+ 1 (+ 2 (+ 3 (+ i (+ 5 (+ 6 7))))))": "(+ 1 (+ 2 (+ 3 (+ i 18))))",
		"(if (< 1 2) i j)": "i", "(if (< 2 1) i j)": "j", "(if (not (= true false)) (+ i (* 2 2)) 9)": "(+ i 4)", "(if false i (* 3 4))": "12", "(+ 1 (if true 2 i))": "3", "(+ 1 (if true i 2))": "(+ 1 i)",
		"(if b (+ 1 2) (+ i (- 5 5)))": "(if b 3 (+ i 0))", "(if (if true b false) 1 2)": "(if b 1 2)", "(if (if true false b) 1 2)": "2", "(if (and (or b true) true) 1 2)": "(if (and (or b true) true) 1 2)",
		"(if true (if false 1 (if true i 3)) 4)": "i", "(if true (if b 1 (if true i 3)) 4)": "(if b 1 i)", "(if false (/ i 0) (if (= 1 1) (+ (+ 1 1) (count)) 2))": "(+ 2 (count))",
	} {
		wantText(t, norm.Simple, proof.Head+"(set i "+from+")", proof.Head+"(set i "+want+")")
	}
	for from, want := range map[string]string{
		// Where nodes and edges are looked at, though what is left may stand everywhere.
		"(each (put ni (+ (if true 1 (own nj)) 2)))":                                                                                 "(each (put ni 3))",
		"(each (put ni (if true (own nj) (id)) (= 1 (if false (deg in) 1))))":                                                        "(each (put ni (own nj) true))",
		"(each (push ni + out (* 2 (if true 3 (via ei))) (if false (own nb) true)))":                                                 "(each (push ni + out 6 true))",
		"(each (pull ni max in (- (if false (+ (far ni) (farid)) 3) (if (not false) 1 (via ei)))))":                                  "(each (pull ni max in 2))",
		"(each (pull nb or in (= true (if true (< 1 2) (via eb)))) (put nj (deg out)))":                                              "(each (pull nb or in true) (put nj (deg out)))",
		"(each (put ni (+ 1 1)) (push nj + in (if (not true) (via ei) (+ (own nj) (+ 1 1)))) (pull nb and out (or false (far nb))))": "(each (put ni 2) (push nj + in (+ (own nj) 2)) (pull nb and out (or false (far nb))))",
		"(fold i min (if true (if b (id) (+ 2 2)) 3) (= 1 (+ 0 1)))":                                                                 "(fold i min (if b (id) 4) true)",
		"(fold i min (+ (if true 1 (own ni)) 1))":                                                                                    "(fold i min 2)",
		"(bfs ni (+ 1 (if true 1 i)) (set i (- 3 3)))":                                                                               "(bfs ni 2 (set i 0))",
	} {
		wantText(t, norm.Simple, proof.Head+from, proof.Head+want)
	}
}

func TestP18_5BranchesAndLoops(t *testing.T) {
	for from, want := range map[string]string{
		"": "", "(if b ((set i 1)) ((set i 2)))": "(if b ((set i 1)) ((set i 2)))", "(if b () ())": "(if b () ())", "(while b)": "(while b)",
		// Of no statement, of one, of several.
		"(if true () ())": "", "(if false () ())": "", "(if true ((set i 1)) ())": "(set i 1)", "(if false ((set i 1)) ())": "", "(if true () ((set i 2)))": "", "(if false () ((set i 2)))": "(set i 2)",
		"(if true ((set i 1)) ((set i 2)))": "(set i 1)", "(if false ((set i 1)) ((set i 2)))": "(set i 2)",
		"(set j 0) (if true ((set i 1) (set j 2) (set i 3)) ((set i 4))) (set j 5)":  "(set j 0) (set i 1) (set j 2) (set i 3) (set j 5)",
		"(set j 0) (if false ((set i 4)) ((set i 1) (set j 2) (set i 3))) (set j 5)": "(set j 0) (set i 1) (set j 2) (set i 3) (set j 5)",
		// E is known only behind what is inside of it.
		"(if (< 1 2) ((set i 1)) ((set i 2)))": "(set i 1)", "(if (not (= 1 1)) ((set i 1)) ((set i 2)))": "(set i 2)", "(if (if true false b) ((set i 1)) ())": "", "(while (and true false) (set i 1))": "", "(while (if (= 1 2) b false))": "",
		"(if (and b false) ((set i 1)) ())": "(if (and b false) ((set i 1)) ())", "(while (if true b false) (set i (+ 1 1)))": "(while b (set i 2))", "(while (= 1 1) (set i (+ 1 1)))": "(while true (set i 2))", "(while true)": "(while true)",
		// Loops that are false are nothing; those that are looked at behind what is in them stay.
		"(while false)": "", "(while false (set i 1) (set j 2))": "", "(set i 1) (while false (set i 2)) (set j 3)": "(set i 1) (set j 3)",
		"(loop false)": "(loop false)", "(loop false (set i (+ 1 2)))": "(loop false (set i 3))", "(loop (< 2 1) (set i 1))": "(loop false (set i 1))", "(loop (not false))": "(loop true)", "(loop (and b b))": "(loop (and b b))",
		// Within one another.
		"(if true ((if false ((set i 1)) ((if true ((set i 2)) ())))) ())":                      "(set i 2)",
		"(if b ((if true ((set i 1)) ())) ((while false (set i 1)) (if false () ((set j 1)))))": "(if b ((set i 1)) ((set j 1)))",
		"(while b (if true ((set i 1) (while false)) ()) (set b false))":                        "(while b (set i 1) (set b false))",
		"(while b (while false) (if false ((set i 1)) ()))":                                     "(while b)",
		"(loop b (if (= 1 1) ((set i 1)) ()) (while (< 1 1) (set j 2)))":                        "(loop b (set i 1))",
		"(bfs ni 0 (if true ((each (put nj (+ 1 1)))) ()) (while (not true) (bfs nj 0)))":       "(bfs ni 0 (each (put nj 2)))",
		"(if true ((while b (set i (* 2 2)))) ())":                                              "(while b (set i 4))",
		"(if true ((loop false (set i 1)) (bfs ni 0)) ((set i 2)))":                             "(loop false (set i 1)) (bfs ni 0)",
		"(while false (if b ((loop b)) ((bfs ni 0))) (each (put ni 1)))":                        "",
		// The example of the tests: what stands in other statements stays.
		"(if (< 1 2) ((set i (if (not true) i (* 3 4)))) ()) (while (and true false) (set i 0)) (while (< i 9) (set i (+ i (- 3 2))))": "(set i 12) (while (< i 9) (set i (+ i 1)))",
	} {
		wantText(t, norm.Simple, proof.Head+from, proof.Head+want)
		wantSimple(t, source(t, proof.Head+from))
	}
}

func TestP18_5ProgramsThatDoNotFit(t *testing.T) {
	for _, from := range []string{
		"(int a) (int a)", "(set a 1)", "(int a) (set a true)", "(int a) (set a (+ 1 true))", "(int a) (set a (if 1 2 3))", "(int a) (set a (id))", "(int a) (fold a and 1)", "(nint a) (each (put a (far a)))", "(if 1 () ())", "(while 0)", "(loop (+ 1 2))",
		"(int a) (bfs a 0)", "(nint a) (bfs a true)",
		// Also in what would not be there any more.
		"(if true () ((set a 1)))", "(while false (set a 1))", "(int a) (set a (if true 1 b))", "(int a) (set a (if true 1 false))", "(int a) (set a (if true 1 (own a)))", "(int a) (set a (+ 1 2)) (set a (not 1))",
	} {
		p := source(t, from)
		if q, wrong := norm.Simple(p); wrong != api.ErrForm || !isEmpty(q) {
			t.Errorf("%s: %s, %d", from, text(q), wrong)
		}
	}
	// One that clashes fits.
	const clashes = "(nint a) (each (put a 1) (push a + out 1))"
	wantText(t, norm.Simple, clashes, clashes)
	if p := (api.Program{Main: []int{0}}); prog.Sound(p) {
		t.Error("it is sound")
	} else if q, wrong := norm.Simple(p); wrong != api.ErrForm || !isEmpty(q) {
		t.Error(wrong)
	}
}
