package flip_test

import (
	"strings"
	"testing"

	"reticule/api"
	"reticule/flip"
	"reticule/prog"
)

// wantText asks that a call lets one text be another one.
func wantText(t *testing.T, what string, call func(api.Program) (api.Program, api.Errno), from, to string) {
	t.Helper()
	p, want := source(t, from), source(t, to)
	if got, wrong := call(p); wrong != api.OK || !prog.Same(got, want) {
		t.Errorf("%s of %s: %s, %d, not %s", what, from, text(got), wrong, to)
	}
	if !prog.Same(p, source(t, from)) {
		t.Errorf("%s of %s: it changed", what, from)
	}
}

func TestP16_1Pushed(t *testing.T) {
	for from, to := range map[string]string{
		"": "", "(int a)": "(int a)", "(set a (far b))": "(set a (far b))", "(fold a + (farid) (far b))": "(fold a + (farid) (far b))",
		// The example of the chapter, and the other way.
		"(each (pull a + out (far b)))": "(each (push a + in (own b)))", "(each (pull a + in (far b)))": "(each (push a + out (own b)))",
		"(each (pull a max out (farid)))": "(each (push a max in (id)))", "(each (pull a min in (farid)))": "(each (push a min out (id)))",
		// All else of an expression stays.
		"(each (pull a and out (via b)))": "(each (push a and in (via b)))", "(each (pull a or in true))": "(each (push a or out true))", "(each (pull a + in far))": "(each (push a + out far))",
		"(each (pull a + out (own b)))": "(each (push a + in (own b)))", "(each (pull a + out (id)))": "(each (push a + in (id)))", "(each (pull a + out (deg out)))": "(each (push a + in (deg out)))", "(each (pull a + in (count)))": "(each (push a + out (count)))",
		// Within calls.
		"(each (pull a + out (+ (far b) (farid))))":                                     "(each (push a + in (+ (own b) (id))))",
		"(each (pull a + in (if (not (far c)) (- (farid) (own b)) (* -1 (far b)))))":    "(each (push a + out (if (not (own c)) (- (id) (own b)) (* -1 (own b)))))",
		"(each (pull a + out (+ 1 (+ 2 (+ 3 (+ (far b) (+ 4 (+ (farid) (far b)))))))))": "(each (push a + in (+ 1 (+ 2 (+ 3 (+ (own b) (+ 4 (+ (id) (own b)))))))))",
		// Acts of other kinds stay, whatever stands in them, ahead of it and behind it.
		"(each (put a (far b)))": "(each (put a (far b)))", "(each (put a (farid) (far c)))": "(each (put a (farid) (far c)))", "(each (push a + out (far b) (farid)))": "(each (push a + out (far b) (farid)))", "(each (push a + in (farid)))": "(each (push a + in (farid)))",
		"(each (put a (far b) (far c)) (pull b + out (far a)) (push d max in (farid) (far c)))":            "(each (put a (far b) (far c)) (push b + in (own a)) (push d max in (farid) (far c)))",
		"(each (push a + out (+ (far b) (farid))) (pull b + out (far a)) (put d (+ (far b) (farid))))":     "(each (push a + out (+ (far b) (farid))) (push b + in (own a)) (put d (+ (far b) (farid))))",
		"(set a (far b)) (each (pull b + in (+ (far a) (farid)))) (set c (farid))":                         "(set a (far b)) (each (push b + out (+ (own a) (id)))) (set c (farid))",
		"(each (pull a + out (far a)) (pull a + in (farid)) (pull b or out true) (pull c and in (far c)))": "(each (push a + in (own a)) (push a + out (id)) (push b or in true) (push c and out (own c)))",
		// Within other statements.
		"(while (far a) (loop (farid) (bfs b (far c) (if (far d) ((each (pull a + out (far b)))) ((each (pull b + in (farid))))))))": "(while (far a) (loop (farid) (bfs b (far c) (if (far d) ((each (push a + in (own b)))) ((each (push b + out (id))))))))",
	} {
		wantText(t, "Pushed", flip.Pushed, "(nint a) (nbool c) "+from, "(nint a) (nbool c) "+to)
	}
}

// wantTurned asks that Turned lets one text be the other one, and that one be the first.
func wantTurned(t *testing.T, from, to string) {
	t.Helper()
	wantText(t, "Turned", flip.Turned, from, to)
	wantText(t, "Turned", flip.Turned, to, from)
}

func TestP16_1Turned(t *testing.T) {
	for from, to := range map[string]string{
		"": "", "(int in) (int out)": "(int in) (int out)", "(set out in)": "(set out in)",
		"(each (push a + out 1))": "(each (push a + in 1))", "(each (pull a + out 1))": "(each (pull a + in 1))", "(each (push a max in (own in) (own out)))": "(each (push a max out (own in) (own out)))", "(each (pull a or in (far a)))": "(each (pull a or out (far a)))",
		"(each (put a (deg in)))": "(each (put a (deg out)))", "(each (put a 1 (= 2 (deg out))))": "(each (put a 1 (= 2 (deg in))))", "(each (put a (own b)))": "(each (put a (own b)))",
		"(each (push a + out (deg out) (< (deg in) (deg out))))":             "(each (push a + in (deg in) (< (deg out) (deg in))))",
		"(each (pull a + out (farid)) (put b (id)) (push a + in (via w)))":   "(each (pull a + in (farid)) (put b (id)) (push a + out (via w)))",
		"(set a (deg out)) (fold a + (deg in) (= (deg in) 0))":               "(set a (deg in)) (fold a + (deg out) (= (deg out) 0))",
		"(while (deg in) (loop (deg out) (each (push a + out 1))))":          "(while (deg out) (loop (deg in) (each (push a + in 1))))",
		"(if (deg in) ((each (pull a + in 1))) ((each (push a + out 1))))":   "(if (deg out) ((each (pull a + out 1))) ((each (push a + in 1))))",
		"(set a (+ 1 (+ (deg in) (if true (deg out) (* 3 (deg in))))))":      "(set a (+ 1 (+ (deg out) (if true (deg in) (* 3 (deg out))))))",
		"(set a (+ (+ 0 1) (count))) (fold b min (if (own c) -1 (farid)) c)": "(set a (+ (+ 0 1) (count))) (fold b min (if (own c) -1 (farid)) c)",
	} {
		wantTurned(t, from, to)
	}
}

func TestP16_1TurnedOfLevels(t *testing.T) {
	for _, from := range []string{
		"(bfs a 0)", "(nint a) (each (push a + out 1)) (bfs a 0)", "(bfs a (deg out)) (bfs b 1)", "(while true (bfs a 0))", "(loop true (bfs a 0))", "(if true ((bfs a 0)) ())", "(if true () ((bfs a 0)))", "(bfs a 0 (bfs b 1))",
	} {
		p := source(t, from)
		if got, wrong := flip.Turned(p); wrong != api.ErrState || got.Decls != nil || got.Exprs != nil || got.Stmts != nil || got.Main != nil {
			t.Errorf("%s: %s, %d", from, text(got), wrong)
		}
	}
}

func TestP16_1PullsAndBfs(t *testing.T) {
	for from, want := range map[string][2]int{
		"": {0, 0}, "(int pull) (int bfs)": {0, 0}, "(set pull bfs)": {0, 0}, "(each (put a 1) (push a + out 1))": {0, 0},
		"(each (pull a + out 1))": {1, 0}, "(each (pull a + out 1) (push a + in 1) (pull b max in (far a)))": {2, 0}, "(each (pull a + out 1)) (each (put a 1)) (each (pull a + in 1))": {2, 0},
		"(bfs a 0)": {0, 1}, "(bfs a 0) (bfs a 0)": {0, 2}, "(bfs a 0 (bfs b 0 (bfs c 0)) (bfs d 0))": {0, 4},
		"(while true (bfs a 0 (each (pull a + out 1)))) (if true ((each (pull b + out 1))) ((bfs b 1))) (loop false (each (pull a or in 1) (pull a or out 1)) (bfs a 0))": {4, 3},
		"(each" + strings.Repeat(" (pull a + in 1)", 6) + ")":   {6, 0},
		strings.Repeat("(each (pull a + in 1)) (bfs a 0) ", 30): {30, 30},
	} {
		p := source(t, from)
		if pulls, bfs := flip.Pulls(p), flip.Bfs(p); pulls != want[0] || bfs != want[1] {
			t.Errorf("%s: %d, %d, not %d", from, pulls, bfs, want)
		}
	}
}

func TestP16_6Split(t *testing.T) {
	for from, to := range map[string]string{
		"": "", "(int a)": "(int a)", "(set a 1)": "(set a 1)",
		// Of one act, also if it reads what it writes.
		"(each (put a 1))": "(each (put a 1))", "(each (push a + out (own a)))": "(each (push a + out (own a)))",
		// None reads what one ahead of it writes.
		"(each (put a 1) (put b 2))":                                                 "(each (put a 1)) (each (put b 2))",
		"(each (put a (own b)) (put b 2))":                                           "(each (put a (own b))) (each (put b 2))",
		"(each (put a (own a)) (push b + out (own b)) (pull c + in (far c)))":        "(each (put a (own a))) (each (push b + out (own b))) (each (pull c + in (far c)))",
		"(each (push a + out 1) (pull a + in (far b)) (push a + in 2 (own c)))":      "(each (push a + out 1)) (each (pull a + in (far b))) (each (push a + in 2 (own c)))",
		"(each (put a 1) (put b a) (put c (via a)))":                                 "(each (put a 1)) (each (put b a)) (each (put c (via a)))", // these are other columns
		"(each (put a 1) (put a 2))":                                                 "(each (put a 1)) (each (put a 2))",                        // it clashes
		"(each (put a (far f)) (put b 1) (put c 2) (put d 3) (put e 4) (put f 5 c))": "(each (put a (far f))) (each (put b 1)) (each (put c 2)) (each (put d 3)) (each (put e 4)) (each (put f 5 c))",
		// One reads what one ahead of it writes: by its own, the other node's, in its condition, within calls.
		"(each (put a 1) (put b (own a)))":                                     "(each (put a 1) (put b (own a)))",
		"(each (put a 1) (pull b + out (far a)))":                              "(each (put a 1) (pull b + out (far a)))",
		"(each (put a 1) (put b 1 (own a)))":                                   "(each (put a 1) (put b 1 (own a)))",
		"(each (push a + out 1) (push b + in 1 (not (= 1 (own a)))))":          "(each (push a + out 1) (push b + in 1 (not (= 1 (own a)))))",
		"(each (pull a + out 1) (put b (+ 1 (* 2 (own a)))))":                  "(each (pull a + out 1) (put b (+ 1 (* 2 (own a)))))",
		"(each (push a + out 1) (pull a + out (far a)))":                       "(each (push a + out 1) (pull a + out (far a)))",
		"(each (put a 1) (put b 2) (put c 3) (put d (own b)))":                 "(each (put a 1) (put b 2) (put c 3) (put d (own b)))",
		"(each (put a 1) (put b (own a)) (put c 3))":                           "(each (put a 1) (put b (own a)) (put c 3))",
		"(each (put a 1) (put b 2) (put c 3) (put d 4) (push e + in (own c)))": "(each (put a 1) (put b 2) (put c 3) (put d 4) (push e + in (own c)))",
		// Several regions, and within other statements: places of others go on.
		"(set i 1) (each (put a 1) (put b 2)) (set j 2) (each (put a 1) (put b (own a))) (each (put c 1) (put d 2) (put e 3)) (set k 3)": "(set i 1) (each (put a 1)) (each (put b 2)) (set j 2) (each (put a 1) (put b (own a))) (each (put c 1)) (each (put d 2)) (each (put e 3)) (set k 3)",
		"(while i (each (put a 1) (put b 2)) (set i j))":             "(while i (each (put a 1)) (each (put b 2)) (set i j))",
		"(loop i (set i j) (each (put a 1) (put b 2)))":              "(loop i (set i j) (each (put a 1)) (each (put b 2)))",
		"(bfs a 0 (each (put c 1) (put b 2))) (set i 1)":             "(bfs a 0 (each (put c 1)) (each (put b 2))) (set i 1)",
		"(if i ((each (put a 1) (put b 2))) ())":                     "(if i ((each (put a 1)) (each (put b 2))) ())",
		"(if i () ((set j 1) (each (put a 1) (put b 2)) (set j 2)))": "(if i () ((set j 1) (each (put a 1)) (each (put b 2)) (set j 2)))",
		"(if i ((each (put a 1) (put b 2)) (while j (each (put c 1) (put d 2)))) ((each (put e 1) (put f 2)) (if k () ()))) (each (put a 1) (put b (own a))) (set i 1)": "(if i ((each (put a 1)) (each (put b 2)) (while j (each (put c 1)) (each (put d 2)))) ((each (put e 1)) (each (put f 2)) (if k () ()))) (each (put a 1) (put b (own a))) (set i 1)",
	} {
		wantText(t, "Split", flip.Split, "(nint a) (int i) "+from, "(nint a) (int i) "+to)
	}
}

// sized is a program of so many forms that ends with a region of acts.
func sized(t *testing.T, forms int, acts ...string) api.Program {
	t.Helper()
	region := "(each " + strings.Join(acts, " ") + ")"
	l, _, _ := prog.Write(source(t, region))
	left := forms - len(l)
	var from strings.Builder
	for left >= 9 {
		from.WriteString("(set i 1) ") // four forms
		left -= 4
	}
	from.WriteString(map[int]string{5: "(set i (id))", 6: "(set i (own a))", 7: "(set i (not (id)))", 8: "(set i 1) (set i 1)"}[left])
	p := source(t, from.String()+region)
	if l, _, _ := prog.Write(p); len(l) != forms {
		t.Fatal(len(l), forms)
	}
	return p
}

func TestP16_6SplitThatIsLargerThanMayBe(t *testing.T) {
	two, three, tied := []string{"(put a 1)", "(put b 2)"}, []string{"(put a 1)", "(push b + out 2)", "(put c 3 true)"}, []string{"(put a 1)", "(put b (own a))"}
	for more := range 9 {
		forms := api.MaxForms - more
		for _, c := range []struct {
			acts []string
			add  int // two forms for each region more
		}{{two, 2}, {three, 4}, {tied, 0}, {two[:1], 0}} {
			p := sized(t, forms, c.acts...)
			got, wrong := flip.Split(p)
			if forms+c.add > api.MaxForms {
				if wrong != api.ErrSpace || got.Decls != nil || got.Exprs != nil || got.Stmts != nil || got.Main != nil {
					t.Errorf("%v, %d forms: %d", c.acts, forms, wrong)
				}
				continue
			}
			l, _, _ := prog.Write(got)
			if wrong != api.OK || len(l) != forms+c.add || len(got.Stmts) != len(p.Stmts)+c.add/2 {
				t.Errorf("%v, %d forms: %d forms, %d", c.acts, forms, len(l), wrong)
			}
		}
	}
	// As deep as may be is no deeper then.
	deep := "(set i 1)"
	for range api.MaxDepth - 2 {
		deep = "(while true " + deep + ")"
	}
	deep = strings.Replace(deep, "(set i 1)", "(each (put a 1) (put b 2))", 1)
	want := strings.Replace(deep, "(each (put a 1) (put b 2))", "(each (put a 1)) (each (put b 2))", 1)
	wantText(t, "Split", flip.Split, deep, want)
}
