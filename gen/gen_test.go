package gen_test

import (
	"slices"
	"strings"
	"testing"

	"reticule/api"
	"reticule/gen"
	"reticule/ir"
	"reticule/prog"
)

// wantCode asks that Compile of a program has such instructions, of that program.
func wantCode(t *testing.T, from, words string) {
	t.Helper()
	p := source(t, from)
	c, e := gen.Compile(p)
	if s, wrong := ir.Print(c); e != api.OK || wrong != api.OK || s != lines(words) || !prog.Same(c.Program, p) {
		t.Errorf("%s: %s, %d, %d, not %s", from, printed(c), e, wrong, words)
	}
	if !slices.Equal(plainCode(p), c.List) {
		t.Errorf("%s: the model has %v", from, plainCode(p))
	}
}

const head = "(int i) (bool b) (nint a) "

func TestP20_1EachStatement(t *testing.T) {
	for from, want := range map[string]string{
		"(set i 1)": "set 0; stop", "(fold i + 1)": "fold 0; stop", "(fold i + 1 true)": "fold 0; stop", "(each (put a 1))": "send 0; take 0; stop", "(each (push a + out 1) (push a + in 2 b))": "send 0; take 0; stop",
		"": "stop",
		// Branches without Then or Else.
		"(if b () ())": "unless 0 2; jump 2; stop", "(if b ((set i 1)) ())": "unless 1 3; set 0; jump 3; stop", "(if b () ((set i 1)))": "unless 1 2; jump 3; set 0; stop", "(if b ((set i 1)) ((set i 2)))": "unless 2 3; set 0; jump 4; set 1; stop",
		"(if b ((set i 1) (set i 2)) ((fold i + 1) (each (put a 1)) (set i 3)))": "unless 5 4; set 0; set 1; jump 8; fold 2; send 3; take 3; set 4; stop",
		// Loops without anything in them, and with.
		"(while true)": "unless 0 2; jump 0; stop", "(while b)": "unless 0 2; jump 0; stop", "(while b (set i 1))": "unless 1 3; set 0; jump 0; stop", "(while b (each (put a 1)) (fold i + 1))": "unless 2 5; send 0; take 0; fold 1; jump 0; stop",
	} {
		wantCode(t, head+from, want)
	}
	wantCode(t, "", "stop")
	wantCode(t, "(int i)", "stop")
	wantCode(t, "(while true)", "unless 0 2; jump 0; stop")
}

func TestP20_1OneBehindTheOther(t *testing.T) {
	for from, want := range map[string]string{
		"(set i 1) (set i 2)":              "set 0; set 1; stop",
		"(each (put a 1)) (fold i + 1)":    "send 0; take 0; fold 1; stop",
		"(set i 1) (while b) (set i 2)":    "set 0; unless 1 3; jump 1; set 2; stop",
		"(while b) (while b)":              "unless 0 2; jump 0; unless 1 4; jump 2; stop",
		"(if b () ()) (if b () ())":        "unless 0 2; jump 2; unless 1 4; jump 4; stop",
		"(while b (set i 1)) (if b () ())": "unless 1 3; set 0; jump 0; unless 2 5; jump 5; stop",
		"(set i 1) (fold i + 1) (each (put a 1)) (if b () ()) (while b) (each (push a + in 1)) (fold i max 2) (set b false)": "set 0; fold 1; send 2; take 2; unless 3 6; jump 6; unless 4 8; jump 6; send 5; take 5; fold 6; set 7; stop",
	} {
		wantCode(t, head+from, want)
	}
}

func TestP20_1OneWithinAnother(t *testing.T) {
	for from, want := range map[string]string{
		"(while b (while b))":                                                  "unless 1 4; unless 0 3; jump 1; jump 0; stop",
		"(while b (while b (while b (set i 1))))":                              "unless 3 7; unless 2 6; unless 1 5; set 0; jump 2; jump 1; jump 0; stop",
		"(if b ((if b ((set i 1)) ())) ((if b () ((set i 2)))))":               "unless 4 5; unless 1 4; set 0; jump 4; jump 8; unless 3 7; jump 8; set 2; stop",
		"(while b (if b ((set i 1)) ((set i 2))))":                             "unless 3 6; unless 2 4; set 0; jump 5; set 1; jump 0; stop",
		"(if b ((while b (set i 1))) ((while b)))":                             "unless 3 5; unless 1 4; set 0; jump 1; jump 7; unless 2 7; jump 5; stop",
		"(if b ((if b ((if b () ())) ())) ())":                                 "unless 2 6; unless 1 5; unless 0 4; jump 4; jump 5; jump 6; stop",
		"(if b () ((if b () ((if b () ((set i 1)))))))":                        "unless 3 2; jump 7; unless 2 4; jump 7; unless 1 6; jump 7; set 0; stop",
		"(while b (set i 1) (if b ((each (put a 1))) ()) (set i 2)) (set i 3)": "unless 4 8; set 0; unless 2 6; send 1; take 1; jump 6; set 3; jump 0; set 5; stop",
	} {
		wantCode(t, head+from, want)
	}
	// As deep as may be.
	deep := api.MaxDepth - 2
	var words []string
	for at := range deep {
		words = append(words, "unless "+itoa(deep-at)+" "+itoa(2*deep+1-at))
	}
	words = append(words, "set 0")
	for at := range deep {
		words = append(words, "jump "+itoa(deep-1-at))
	}
	wantCode(t, "(int i)"+strings.Repeat("(while true ", deep)+"(set i (+ i 1))"+strings.Repeat(")", deep), strings.Join(append(words, "stop"), "; "))
}

func itoa(n int) string {
	if n < 10 {
		return string(rune('0' + n))
	}
	return itoa(n/10) + itoa(n%10)
}

// No program has more code than may be: there are two instructions of three forms at most, and MaxForms of these.
func TestP20_1AndE4TheLongestCode(t *testing.T) {
	many := api.MaxForms / 3
	p := source(t, strings.Repeat("(while true)", many))
	c, e := gen.Compile(p)
	if e != api.OK || len(c.List) != 2*many+1 || len(c.List) > api.MaxCode || !slices.Equal(c.List, plainCode(p)) {
		t.Error(len(c.List), e)
	}
	p = source(t, "(while true"+strings.Repeat("(while true)", many-1)+")")
	if c, e = gen.Compile(p); e != api.OK || len(c.List) != 2*many+1 || !slices.Equal(c.List, plainCode(p)) || c.List[0].To != 2*many || c.List[2*many-1].To != 0 {
		t.Error(len(c.List), e)
	}
	// Of other statements there is less of it.
	for first, one := range map[string]string{"": "(if true () ())", "(int i)": "(set i 1)", "(int j)": "(fold j + 1)", "(nint a)": "(each (put a 1))"} {
		p := source(t, first+strings.Repeat(one, 60))
		if c, e := gen.Compile(p); e != api.OK || len(c.List) > 121 || !slices.Equal(c.List, plainCode(p)) {
			t.Error(one, len(c.List), e)
		}
	}
}

// Code of as many instructions as may be comes of other code.
func TestE4CodeOfMaxCode(t *testing.T) {
	c := api.Code{Program: source(t, "(int i)")}
	for at := range api.MaxCode {
		c.List = append(c.List, api.Instr{Kind: api.Jump, To: min(at+1, api.MaxCode-1)})
	}
	c.List[api.MaxCode-1] = api.Instr{Kind: api.Stop}
	m := wantMade(t, "Merged", gen.Merged, c, append(slices.Repeat([]api.Instr{{Kind: api.Jump, To: api.MaxCode - 1}}, api.MaxCode-1), api.Instr{Kind: api.Stop}))
	wantMade(t, "Pruned", gen.Pruned, c, c.List)
	wantMade(t, "Pruned", gen.Pruned, m, []api.Instr{{Kind: api.Jump, To: 1}, {Kind: api.Stop}})
	// All of them come round, whichever of them it is.
	c.List[api.MaxCode-1] = api.Instr{Kind: api.Jump}
	wantMade(t, "Merged", gen.Merged, c, c.List)
	c.List[api.MaxCode-1] = api.Instr{Kind: api.Jump, To: api.MaxCode - 1}
	wantMade(t, "Merged", gen.Merged, c, c.List)
	c.List = append(c.List, api.Instr{Kind: api.Stop})
	for name, call := range map[string]func(api.Code) (api.Code, api.Errno){"Merged": gen.Merged, "Pruned": gen.Pruned} {
		if d, e := call(c); e != api.ErrForm || !isEmpty(d) {
			t.Error(name, d, e)
		}
	}
}

func TestP20_1ProgramsThatMayHaveNoCode(t *testing.T) {
	for _, from := range []string{
		"(nint a) (each (pull a + in 1))", "(nint a) (bfs a 0)", "(loop true)", "(while true (loop false))", "(if true () ((loop true)))",
		"(set a 1)", "(int a) (set a true)", "(int a) (int a)", "(while 1)", "(if 0 () ())", "(nint a) (each (put a (far a)))", "(while false (set a 1))",
		"(nint a) (each (put a 1) (push a + out 1))", "(nint a) (while false (each (put a 1) (put a 2)))", "(nint a) (each (push a + out 1) (push a max out 1))",
	} {
		if c, e := gen.Compile(source(t, from)); e != api.ErrForm || !isEmpty(c) {
			t.Errorf("%s: %v, %d", from, c, e)
		}
	}
}

// Compile by the model; P20.3.
func TestP20_1AndP20_3OfManyPrograms(t *testing.T) {
	t.Parallel()
	right, wrong := 0, 0
	programs(t, func(p api.Program) {
		c, e := gen.Compile(p)
		if !mayHave(p) {
			wrong++
			if e != api.ErrForm || !isEmpty(c) {
				t.Errorf("%s: %v, %d", text(p), c, e)
			}
			return
		}
		right++
		if e != api.OK || !slices.Equal(c.List, plainCode(p)) || !prog.Same(c.Program, p) {
			t.Errorf("%s: %v, %d", text(p), c.List, e)
		}
		if at, e := ir.Check(c); at != 0 || e != api.OK {
			t.Errorf("%s: %v may not be run: %d, %d", text(p), c.List, at, e)
		}
	})
	if right < 700 || wrong < 500 {
		t.Error("too few programs:", right, wrong)
	}
}

func TestP20_2Merged(t *testing.T) {
	for from, want := range map[string]string{
		// Nothing leads to a Jump.
		"stop": "stop", "set 0; stop": "set 0; stop", "jump 1; stop": "jump 1; stop", "unless 2 1; stop": "unless 2 1; stop", "unless 2 2; set 0; stop": "unless 2 2; set 0; stop", "send 3; take 3; jump 0": "send 3; take 3; jump 0",
		// A Jump to itself, and what leads to it.
		"jump 0": "jump 0", "jump 1; jump 1": "jump 1; jump 1", "unless 2 1; jump 1": "unless 2 1; jump 1", "jump 2; stop; jump 2": "jump 2; stop; jump 2",
		// Jumps that come round to one another, and what leads to them.
		"jump 1; jump 0": "jump 1; jump 0", "jump 1; jump 2; jump 0": "jump 1; jump 2; jump 0", "unless 2 1; jump 2; jump 1": "unless 2 1; jump 2; jump 1", "unless 2 1; jump 2; jump 3; jump 2": "unless 2 1; jump 2; jump 3; jump 2", "jump 1; jump 2; jump 3; jump 2": "jump 1; jump 2; jump 3; jump 2",
		// A Jump to a Jump, and to one of these, forth and back.
		"jump 1; jump 2; stop": "jump 2; jump 2; stop", "jump 1; jump 2; jump 3; stop": "jump 3; jump 3; jump 3; stop", "jump 2; stop; jump 1": "jump 1; stop; jump 1", "jump 3; stop; jump 1; jump 2": "jump 1; stop; jump 1; jump 1", "set 0; jump 2; jump 0": "set 0; jump 0; jump 0",
		// An Unless to a Jump; a Jump to an Unless stays, and so does an Unless to an Unless.
		"unless 2 1; jump 2; stop": "unless 2 2; jump 2; stop", "unless 2 1; jump 2; jump 0": "unless 2 0; jump 0; jump 0", "jump 1; unless 2 2; jump 3; stop": "jump 1; unless 2 3; jump 3; stop", "unless 2 1; unless 4 0; stop": "unless 2 1; unless 4 0; stop",
		"unless 4 3; unless 2 0; jump 0; jump 2": "unless 4 0; unless 2 0; jump 0; jump 0",
		// Some of them come round, and others do not; it is of no matter what is reached.
		"unless 2 3; unless 4 4; stop; jump 3; jump 2": "unless 2 3; unless 4 2; stop; jump 3; jump 2", "stop; jump 2; jump 0": "stop; jump 0; jump 0", "stop; jump 2; jump 1": "stop; jump 2; jump 1",
		// To what is sent.
		"jump 1; jump 2; send 3; take 3; jump 0": "jump 2; jump 2; send 3; take 3; jump 2", "unless 4 3; send 3; take 3; jump 1": "unless 4 1; send 3; take 3; jump 1",
	} {
		c := code(t, several, from)
		wantMade(t, "Merged", gen.Merged, c, code(t, several, want).List)
		if !slices.Equal(plainMerged(c.List), code(t, several, want).List) {
			t.Errorf("%s: the model has %v", from, plainMerged(c.List))
		}
	}
	// Branches within one another lead to jumps.
	c, _ := gen.Compile(source(t, head+"(if b ((if b ((set i 1)) ())) ((set i 2))) (while b (if b () ()))"))
	wantMade(t, "Merged", gen.Merged, c, code(t, head+"(if b ((if b ((set i 1)) ())) ((set i 2))) (while b (if b () ()))", "unless 3 5; unless 1 6; set 0; jump 6; jump 6; set 2; unless 5 10; unless 4 6; jump 6; jump 6; stop").List)
}

func TestP20_6Pruned(t *testing.T) {
	for from, want := range map[string]string{
		// All is reached.
		"stop": "stop", "jump 0": "jump 0", "set 0; fold 1; send 3; take 3; stop": "set 0; fold 1; send 3; take 3; stop", "unless 2 2; jump 0; stop": "unless 2 2; jump 0; stop", "jump 2; stop; jump 1": "jump 2; stop; jump 1",
		// Hardly anything is.
		"stop; set 0; fold 1; unless 2 1; send 3; take 3; jump 2; stop": "stop", "jump 0; set 0; jump 1; stop": "jump 0", "jump 7; set 0; set 0; set 0; set 0; set 0; set 0; stop": "jump 1; stop", "set 0; jump 0; stop": "set 0; jump 0", "jump 2; stop; jump 0; stop": "jump 1; jump 0",
		// Each To is moved: by what is ahead of it, and not by what is behind; forth and back.
		"jump 2; set 0; stop": "jump 1; stop", "jump 2; set 0; unless 2 4; jump 2; stop; stop": "jump 1; unless 2 3; jump 1; stop", "unless 2 4; jump 3; set 0; jump 6; jump 3; stop; stop": "unless 2 3; jump 2; jump 4; jump 2; stop",
		"jump 3; stop; stop; unless 4 6; jump 3; stop; jump 1": "jump 2; stop; unless 4 4; jump 2; jump 1", "jump 4; send 3; take 3; stop; send 3; take 3; jump 4": "jump 1; send 3; take 3; jump 1",
		"unless 2 5; stop; unless 4 3; set 0; jump 7; unless 4 0; jump 9; fold 1; jump 2; set 0; stop; jump 11": "unless 2 2; stop; unless 4 0; jump 4; set 0; stop",
	} {
		c := code(t, several, from)
		wantMade(t, "Pruned", gen.Pruned, c, code(t, several, want).List)
		if !slices.Equal(plainPruned(c.List), code(t, several, want).List) {
			t.Errorf("%s: the model has %v", from, plainPruned(c.List))
		}
	}
}

func TestP20_2AndP20_6CodeThatMayNotBeRun(t *testing.T) {
	p := source(t, several)
	bad := []api.Code{{}, {Program: p}, {Program: p, List: []api.Instr{{Kind: api.SetInstr}}}, {Program: p, List: []api.Instr{{Kind: api.Jump, To: 1}}}, {Program: p, List: []api.Instr{{Kind: api.Jump, To: -1}}}, {Program: p, List: []api.Instr{{Kind: api.Stop, To: 1}}}, {Program: p, List: []api.Instr{{}, {Kind: api.Stop}}}, {Program: p, List: []api.Instr{{Kind: 8}, {Kind: api.Stop}}},
		{Program: p, List: []api.Instr{{Kind: api.SendInstr, At: 3}, {Kind: api.Stop}}}, {Program: p, List: []api.Instr{{Kind: api.TakeInstr, At: 3}, {Kind: api.Stop}}}, {Program: p, List: make([]api.Instr, api.MaxCode+1)}}
	for _, from := range []string{"(loop true)", "(nint a) (each (pull a + in 1))", "(nint a) (bfs a 0)", "(set a 1)", "(nint a) (each (put a 1) (put a 2))"} {
		bad = append(bad, api.Code{Program: source(t, from), List: []api.Instr{{Kind: api.Stop}}})
	}
	for _, c := range bad {
		if d, e := gen.Merged(c); e != api.ErrForm || !isEmpty(d) {
			t.Errorf("Merged of %v: %v, %d", c, d, e)
		}
		if d, e := gen.Pruned(c); e != api.ErrForm || !isEmpty(d) {
			t.Errorf("Pruned of %v: %v, %d", c, d, e)
		}
	}
}
