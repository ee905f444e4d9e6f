package norm_test

import (
	"strings"
	"testing"

	"reticule/api"
	"reticule/bfs"
	"reticule/norm"
	"reticule/prog"
	"reticule/proof"
)

// told is what Loops, Size and Is tell.
type told struct {
	loops, size int
	is          bool
}

func TestP18_1LoopsAndSizeAndIs(t *testing.T) {
	for from, want := range map[string]told{
		"": {0, 0, true}, "(int loop) (nint bfs) (eint pull)": {0, 9, true}, "(set loop bfs)": {0, 4, true}, "(set a (+ 1 (id)))": {0, 8, true},
		"(each (put a 1) (push b + out 2 true))": {0, 13, true}, "(fold a max (deg in) (own b))": {0, 10, true}, "(if a () ((while b (set c 1))))": {0, 12, true},
		// One of each that is no more there in the end.
		"(each (pull a + in 1))": {0, 8, false}, "(bfs a 0)": {0, 4, false}, "(loop a)": {1, 3, false},
		"(each (put a 1) (pull b + in 1))": {0, 12, false}, "(while a (bfs b 0))": {0, 7, false}, "(if a ((loop b)) ())": {1, 8, false}, "(if a () ((loop b)))": {1, 8, false},
		"(if a () ((each (pull b + in 1))))": {0, 13, false}, "(while a (while b (loop c)))": {1, 9, false}, "(bfs a 0 (loop b))": {1, 7, false},
		// Many.
		"(loop a) (loop a) (while b (loop c (loop d) (set e 1) (loop f)))": {5, 22, false}, strings.Repeat("(loop a (bfs b 0 (each (pull c + out 1))))", 7): {7, 105, false},
		strings.Repeat("(loop a)", 133): {133, 399, false}, strings.Repeat("(set a 1)", 100): {0, 400, true},
	} {
		p := source(t, from)
		if got := (told{norm.Loops(p), norm.Size(p), norm.Is(p)}); got != want {
			t.Errorf("%s: %v, not %v", from, got, want)
		}
	}
}

func wantText(t *testing.T, call func(api.Program) (api.Program, api.Errno), from, want string) {
	t.Helper()
	p := source(t, from)
	if q, wrong := call(p); wrong != api.OK || !prog.Same(q, source(t, want)) {
		t.Errorf("%s: %s, %d, not %s", from, text(q), wrong, want)
	}
	if !prog.Same(p, source(t, from)) {
		t.Errorf("%s: it changed", from)
	}
}

func TestP18_1Normal(t *testing.T) {
	for from, want := range map[string]string{
		"": "", "(set a 1)": "(set a 1)", "(if a ((set b 1)) ((while c)))": "(if a ((set b 1)) ((while c)))",
		// The example of the chapter, with nothing, with one and with several statements in it.
		"(loop a)": "(while a)", "(loop (< a 1) (set b 2))": "(set b 2) (while (< a 1) (set b 2))",
		"(set a 1) (loop (not b) (set b 2) (fold c + (own d) (id)) (each (put e 3))) (set f 4)": "(set a 1) (set b 2) (fold c + (own d) (id)) (each (put e 3)) (while (not b) (set b 2) (fold c + (own d) (id)) (each (put e 3))) (set f 4)",
		// Loops within loops, within others, and others within them.
		"(loop a (loop b))":                                "(while b) (while a (while b))",
		"(loop a (loop b (set c 1)))":                      "(set c 1) (while b (set c 1)) (while a (set c 1) (while b (set c 1)))",
		"(loop a (loop b (loop c (set d 1))))":             "(set d 1) (while c (set d 1)) (while b (set d 1) (while c (set d 1))) (while a (set d 1) (while c (set d 1)) (while b (set d 1) (while c (set d 1))))",
		"(loop a (set b 1) (loop b (set c 1)) (set d 1))":  "(set b 1) (set c 1) (while b (set c 1)) (set d 1) (while a (set b 1) (set c 1) (while b (set c 1)) (set d 1))",
		"(while a (loop b (set c 1)))":                     "(while a (set c 1) (while b (set c 1)))",
		"(loop a (while b (set c 1)))":                     "(while b (set c 1)) (while a (while b (set c 1)))",
		"(if a ((loop b (set c 1))) ((loop d) (set e 2)))": "(if a ((set c 1) (while b (set c 1))) ((while d) (set e 2)))",
		"(loop a (if b ((loop c)) ()))":                    "(if b ((while c)) ()) (while a (if b ((while c)) ()))",
		// Loops that share names.
		"(int i) (loop (< i 3) (set i (+ i 1))) (loop (< i 5) (set i (+ i 2)))":                 "(int i) (set i (+ i 1)) (while (< i 3) (set i (+ i 1))) (set i (+ i 2)) (while (< i 5) (set i (+ i 2)))",
		"(int i) (loop (< i 3) (loop (< i 2) (set i (+ i 1))))":                                 "(int i) (set i (+ i 1)) (while (< i 2) (set i (+ i 1))) (while (< i 3) (set i (+ i 1)) (while (< i 2) (set i (+ i 1))))",
		"(bool b) (nbool b) (loop b (fold b or (own b)) (loop b (each (put b (not (own b))))))": "(bool b) (nbool b) (fold b or (own b)) (each (put b (not (own b)))) (while b (each (put b (not (own b))))) (while b (fold b or (own b)) (each (put b (not (own b)))) (while b (each (put b (not (own b))))))",
		// Acts that fetch, and both.
		"(each (pull a + out (far b)))":                              "(each (push a + in (own b)))",
		"(each (put a (far b)) (pull c max in (+ (farid) (via d))))": "(each (put a (far b)) (push c max out (+ (id) (via d))))",
		"(loop a (each (pull b + in (if (far c) (farid) (own d)))))": "(each (push b + out (if (own c) (id) (own d)))) (while a (each (push b + out (if (own c) (id) (own d)))))",
		"(while (far a) (each (pull b or out (far c))))":             "(while (far a) (each (push b or in (own c))))",
	} {
		wantText(t, norm.Normal, from, want)
		wantNormal(t, source(t, from))
	}
}

// levels is what a statement of levels of d from 0 on is, with things in it.
func levels(then string) string {
	return "(set q1 0) (each (put d (if (= (id) q1) 0 -1))) (set q0 0) (set q2 false) (fold q2 or (= (own d) q0)) (while q2 " + then +
		" (each (put q3 false)) (each (push q3 or out true (= (own d) q0))) (set q0 (+ q0 1)) (each (put d q0 (and (own q3) (= (own d) -1)))) (set q2 false) (fold q2 or (= (own d) q0)))"
}

func TestP18_1NormalOfLevels(t *testing.T) {
	const head, more = "(nint d) (int i) ", "(int q0) (int q1) (bool q2) (nbool q3) "
	for from, want := range map[string]string{
		"(bfs d 0)":                                       levels(""),
		"(bfs d 0 (set i 1))":                             levels("(set i 1)"),
		"(bfs d 0 (loop b (set i 1)))":                    levels("(set i 1) (while b (set i 1))"),
		"(bfs d 0 (each (pull d + in (far d))))":          levels("(each (push d + out (own d)))"),
		"(loop b (bfs d 0))":                              levels("") + "(while b " + levels("") + ")",
		"(loop b (bfs d 0 (each (pull d + in (farid)))))": levels("(each (push d + out (id)))") + "(while b " + levels("(each (push d + out (id)))") + ")",
		"(each (pull d + out 1)) (bfs d 0 (loop b (set i 1))) (loop (far c) (each (pull d max in (far d))))": "(each (push d + in 1)) " + levels("(set i 1) (while b (set i 1))") + " (each (push d max out (own d))) (while (far c) (each (push d max out (own d))))",
	} {
		wantText(t, norm.Normal, head+from, head+more+want)
	}
}

// sized is a text of a loop whose normal form has so many forms.
func sized(t *testing.T, forms int, loop string) string {
	t.Helper()
	left := forms - proof.Forms(unrolled(proof.Brackets(loop)))
	ahead := ""
	for left >= 9 {
		ahead += "(set i 1) " // four forms
		left -= 4
	}
	return ahead + map[int]string{5: "(set i (id)) ", 6: "(set i (own a)) ", 7: "(set i (not (id))) ", 8: "(set i 1) (set i 1) "}[left] + loop
}

func TestP18_1NormalThatIsLargerThanMayBe(t *testing.T) {
	for _, loop := range []string{
		"(loop b (set i 1))", "(loop b (loop c (set i 1)) (each (pull a + out (far b))))", "(while b (loop c (loop d (loop e (set i (+ 1 2))))))", "(if a ((loop b (set i 1) (set j 2))) ((loop c (set k 3))))",
	} {
		for forms := api.MaxForms - 6; forms <= api.MaxForms+4; forms++ {
			p := source(t, sized(t, forms, loop))
			q, wrong := wantNormal(t, p)
			if (wrong == api.OK) != (forms <= api.MaxForms) || wrong == api.OK && norm.Size(q) != forms || wrong != api.OK && wrong != api.ErrSpace {
				t.Errorf("%s, %d forms: %d, %d", loop, forms, norm.Size(q), wrong)
			}
		}
	}
	// Loops within loops are twice as many each time.
	for many := range api.MaxDepth {
		p := source(t, strings.Repeat("(loop a ", many)+"(set i 1)"+strings.Repeat(")", many))
		if _, wrong := wantNormal(t, p); (wrong == api.OK) != (many <= 5) {
			t.Errorf("%d loops: %d", many, wrong)
		}
	}
	p := source(t, strings.Repeat("(loop a ", api.MaxDepth-3)+strings.Repeat("(each (put a (if true 1 2)))", 30)+strings.Repeat(")", api.MaxDepth-3))
	if q, wrong := norm.Normal(p); wrong != api.ErrSpace || !isEmpty(q) {
		t.Error(wrong)
	}
	// Loops without anything in them are not more.
	wantText(t, norm.Normal, strings.Repeat("(loop a)", api.MaxForms/3), strings.Repeat("(while a)", api.MaxForms/3))
	// As deep as may be.
	deep := strings.Repeat("(while a ", api.MaxDepth-1) + "(set i 1)" + strings.Repeat(")", api.MaxDepth-1)
	wantText(t, norm.Normal, strings.Replace(deep, "while", "loop", 1), strings.TrimSuffix(strings.TrimPrefix(deep, "(while a "), ")")+deep)
}

// What is too much for levels is so ahead of loops, and what is too much for loops only then.
func TestP18_1WhichErrorIsFirst(t *testing.T) {
	for from, want := range map[string][2]api.Errno{
		strings.Repeat("(bfs a 0)", 4):                           {api.ErrSpace, api.ErrSpace},
		strings.Repeat("(bfs a 0)", 4) + "(loop a (loop b))":     {api.ErrSpace, api.ErrSpace},
		"(bfs a 0) (bfs a 0)":                                    {api.OK, api.OK},
		"(loop b (bfs a 0) (bfs a 0))":                           {api.OK, api.ErrSpace},
		"(loop b (bfs a 0))":                                     {api.OK, api.OK},
		"(loop a " + strings.Repeat("(set i 1)", 60) + ")":       {api.OK, api.ErrSpace},
		"(loop a " + strings.Repeat("(set i 1)", 49) + ")":       {api.OK, api.OK},
		strings.Repeat("(int a)", 21) + "(bfs a 0) (loop b)":     {api.ErrSpace, api.ErrSpace},
		strings.Repeat("(int a)", 20) + "(bfs a 0) (loop b)":     {api.OK, api.OK},
		strings.Repeat("(loop b ", 7) + "(bfs a 0)" + ")))))))":  {api.ErrSpace, api.ErrSpace},
		strings.Repeat("(while b ", 6) + "(bfs a 0)" + "))))))":  {api.OK, api.OK},
		strings.Repeat("(while b ", 7) + "(bfs a 0)" + ")))))))": {api.ErrSpace, api.ErrSpace},
	} {
		p := source(t, from)
		_, lower := bfs.Lower(p)
		_, normal := wantNormal(t, p)
		if got := [2]api.Errno{lower, normal}; got != want {
			t.Errorf("%s: %d, not %d", from, got, want)
		}
		p.Main = append(p.Main, 0)
		if q, wrong := norm.Normal(p); wrong != api.ErrForm || !isEmpty(q) {
			t.Errorf("%s, spoilt: %d", from, wrong)
		}
	}
}
