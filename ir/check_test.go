package ir_test

import (
	"slices"
	"strings"
	"testing"

	"reticule/api"
	"reticule/ir"
	"reticule/prog"
	"reticule/proof"
)

func TestP19_1Examples(t *testing.T) {
	p := source(t, "(nint a) (each (put a 1))")
	c := api.Code{Program: p, List: instrs("send 0 0; take 0 0; stop 0 0")}
	if got := check(c); got != (told{0, api.OK}) {
		t.Error(got)
	}
	if s, e := ir.Print(c); s != "0 send 0\n1 take 0\n2 stop\n" || e != api.OK {
		t.Error(s, e)
	}
}

// Of each kind: which places of statements it may be of.
func TestP19_1At(t *testing.T) {
	places := []int{-1 << 63, -2, -1, 0, 1, 2, 3, 4, 5, 6, 7, 1 << 40, 1<<63 - 1}
	for kind, right := range map[string][]int{"set": {0}, "fold": {1}, "send": {3, 5}, "take": {3, 5}, "unless": {2, 4}, "jump": {0}, "stop": {0}, "none": nil, "eight": nil} {
		for _, at := range places {
			want := told{1, api.ErrForm}
			if slices.Contains(right, at) {
				want = told{0, api.OK}
			}
			c := code(t, "jump 0 1;"+kind+" 0 0; stop 0 0")
			c.List[1].At = at
			switch kind {
			case "send":
				c.List = slices.Insert(c.List, 2, api.Instr{Kind: api.TakeInstr, At: at})
			case "take":
				c.List[0] = api.Instr{Kind: api.SendInstr, At: at}
				if want.errno != api.OK {
					continue // the one ahead is wrong already
				}
			}
			if got := check(c); got != want {
				t.Errorf("%s of %d: %v, not %v", kind, at, got, want)
			}
		}
	}
	// A take of a wrong place behind a send of a right one: that is the fault of the send, which is come to first.
	for _, at := range []int{-1, 0, 1, 2, 4, 5, 6} {
		c := code(t, "send 3 0; take 3 0; stop 0 0")
		c.List[1].At = at
		if got := check(c); got != (told{0, api.ErrState}) {
			t.Error(at, got)
		}
		// Behind something else its own.
		c.List[0] = api.Instr{Kind: api.SetInstr}
		want := told{1, api.ErrForm}
		if at == 5 {
			want.errno = api.ErrState
		}
		if got := check(c); got != want {
			t.Error(at, got)
		}
	}
	for _, kind := range []api.InstrKind{api.NoInstr, 8, 9, 100, 255} {
		for at := range 6 {
			c := code(t, "set 0 0; stop 0 0")
			c.List[0] = api.Instr{Kind: kind, At: at}
			if got := check(c); got != (told{0, api.ErrForm}) {
				t.Error(kind, at, got)
			}
		}
	}
}

// Of a program without statements there is no place, and 0 is none.
func TestP19_1AtOfNoStatement(t *testing.T) {
	for _, kind := range words() {
		want := told{0, api.ErrForm}
		if kind == "jump" || kind == "stop" {
			want.errno = api.OK
		}
		if got := check(api.Code{List: instrs(kind + " 0 0; stop 0 0")}); got != want {
			t.Error(kind, got)
		}
	}
}

// Of each kind: where it may lead.
func TestP19_1To(t *testing.T) {
	for kind, l := range map[string]string{"set": "set 0 0; jump 0 0; stop 0 0", "fold": "fold 1 0; jump 0 0; stop 0 0", "send": "send 3 0; take 3 0; stop 0 0", "unless": "unless 4 0; jump 0 0; stop 0 0", "jump": "jump 0 0; jump 0 0; stop 0 0", "stop": "stop 0 0; jump 0 0; stop 0 0"} {
		leads := kind == "unless" || kind == "jump"
		for _, to := range []int{-1 << 63, -1, 0, 1, 2, 3, 4, 1 << 40, 1<<63 - 1} {
			c := code(t, l)
			c.List[0].To = to
			want := told{0, api.OK}
			if leads && (to < 0 || to > 2) || !leads && to != 0 {
				want.errno = api.ErrRange
			}
			if got := check(c); got != want {
				t.Errorf("%s to %d: %v, not %v", kind, to, got, want)
			}
		}
	}
	// A take that leads somewhere is its own fault, and not that of the send ahead.
	for _, to := range []int{-1, 1, 2, 3} {
		c := code(t, "send 3 0; take 3 0; stop 0 0")
		c.List[1].To = to
		if got := check(c); got != (told{1, api.ErrRange}) {
			t.Error(to, got)
		}
	}
	// The last one, and the one behind it.
	for to, want := range map[int]api.Errno{4: api.OK, 5: api.ErrRange} {
		c := code(t, "set 0 0; fold 1 0; unless 4 0; jump 0 0; stop 0 0")
		c.List[2].To = to
		if got := check(c); got.errno != want || want != api.OK && got.at != 2 {
			t.Error(to, got)
		}
		c.List[2].To, c.List[3].To = 0, to
		if got := check(c); got.errno != want || want != api.OK && got.at != 3 {
			t.Error(to, got)
		}
	}
}

func TestP19_1WhereTheyStand(t *testing.T) {
	for text, want := range map[string]told{
		// What is sent is taken just behind.
		"send 3 0; take 3 0; stop 0 0": {0, api.OK}, "send 5 0; take 5 0; send 3 0; take 3 0; stop 0 0": {0, api.OK}, "send 3 0; take 3 0; jump 0 0": {0, api.OK},
		"send 3 0; stop 0 0": {0, api.ErrState}, "send 3 0; set 0 0; take 3 0; stop 0 0": {0, api.ErrState}, "send 3 0; take 5 0; stop 0 0": {0, api.ErrState}, "send 3 0; send 3 0; take 3 0; stop 0 0": {0, api.ErrState},
		"stop 0 0; send 3 0": {1, api.ErrState}, "send 3 0": {0, api.ErrState}, "send 3 0; send 3 0": {0, api.ErrState}, "jump 0 0; send 5 0; stop 0 0": {1, api.ErrState},
		"take 3 0; stop 0 0": {0, api.ErrState}, "take 3 0": {0, api.ErrState}, "take 3 0; send 3 0; stop 0 0": {0, api.ErrState}, "set 0 0; take 3 0; stop 0 0": {1, api.ErrState}, "stop 0 0; take 3 0; stop 0 0": {1, api.ErrState},
		"send 3 0; take 3 0; take 3 0; stop 0 0": {2, api.ErrState}, "send 3 0; take 3 0; take 5 0; stop 0 0": {2, api.ErrState}, "unless 2 2; take 3 0; stop 0 0": {1, api.ErrState}, "fold 1 0; take 5 0; stop 0 0": {1, api.ErrState},
		// Nothing leads to what is taken, but to what is sent.
		"send 3 0; take 3 0; jump 0 1": {2, api.ErrState}, "send 3 0; take 3 0; unless 2 1; stop 0 0": {2, api.ErrState}, "send 3 0; take 3 0; unless 2 0; jump 0 0": {0, api.OK},
		"jump 0 2; send 3 0; take 3 0; stop 0 0": {0, api.ErrState}, "jump 0 1; send 3 0; take 3 0; stop 0 0": {0, api.OK}, "jump 0 3; send 3 0; take 3 0; stop 0 0": {0, api.OK},
		"unless 4 2; send 3 0; take 3 0; stop 0 0": {0, api.ErrState}, "unless 4 1; send 3 0; take 3 0; stop 0 0": {0, api.OK}, "unless 4 3; send 3 0; take 3 0; stop 0 0": {0, api.OK},
		// To one that may not be there itself, too.
		"jump 0 1; take 3 0; stop 0 0": {0, api.ErrState}, "unless 4 1; take 9 7; stop 0 0": {0, api.ErrState}, "jump 0 2; stop 0 0; take 9 0": {0, api.ErrState},
		// Each kind as the last one.
		"stop 0 0": {0, api.OK}, "jump 0 0": {0, api.OK}, "set 0 0": {0, api.ErrState}, "fold 1 0": {0, api.ErrState}, "unless 2 0": {0, api.ErrState}, "unless 4 0": {0, api.ErrState}, "none 0 0": {0, api.ErrForm}, "eight 0 0": {0, api.ErrForm},
		"stop 0 0; set 0 0": {1, api.ErrState}, "stop 0 0; fold 1 0": {1, api.ErrState}, "stop 0 0; unless 2 0": {1, api.ErrState}, "stop 0 0; jump 0 1": {0, api.OK}, "stop 0 0; stop 0 0": {0, api.OK}, "stop 0 0; send 3 0; take 3 0": {2, api.ErrState}, "set 0 0; jump 0 0": {0, api.OK},
		"stop 0 0; none 0 0": {1, api.ErrForm}, "stop 0 0; eight 0 0": {1, api.ErrForm},
	} {
		c := code(t, text)
		if got := check(c); got != want {
			t.Errorf("%s: %v, not %v", text, got, want)
		}
		if got := plainCheck(c, true); got != want {
			t.Errorf("%s: the model has %v, not %v", text, got, want)
		}
	}
}

// Of one instruction the form is first, then where it leads, then where it stands; of several the first one.
func TestP19_1WhichErrorIsFirst(t *testing.T) {
	for text, want := range map[string]told{
		"set 1 5; set 0 5; set 0 0": {0, api.ErrForm}, "set 0 5; set 1 5; set 0 0": {0, api.ErrRange}, "set 0 0; set 1 5; set 0 0": {1, api.ErrForm}, "set 0 0; set 0 5; set 1 0": {1, api.ErrRange}, "set 0 0; set 0 0; set 0 0": {2, api.ErrState},
		"send 0 1": {0, api.ErrForm}, "send 3 1": {0, api.ErrRange}, "send 3 0": {0, api.ErrState}, "take 0 1": {0, api.ErrForm}, "take 3 1": {0, api.ErrRange}, "take 3 0": {0, api.ErrState},
		"unless 0 -1": {0, api.ErrForm}, "unless 2 -1": {0, api.ErrRange}, "unless 2 0": {0, api.ErrState}, "jump 1 7": {0, api.ErrForm}, "jump 0 7": {0, api.ErrRange}, "stop 1 1": {0, api.ErrForm}, "stop 0 1": {0, api.ErrRange},
		"jump 1 1; take 0 0": {0, api.ErrForm}, "jump 0 1; take 0 0": {0, api.ErrState}, "jump 0 0; take 0 0": {1, api.ErrForm}, "jump 0 0; take 3 9": {1, api.ErrRange}, "jump 0 0; take 3 0": {1, api.ErrState},
		"send 3 0; take 3 7; jump 0 9": {1, api.ErrRange}, "send 3 0; take 3 0; jump 0 9": {2, api.ErrRange}, "send 3 0; take 3 0; jump 9 9": {2, api.ErrForm}, "none 9 9; none 9 9": {0, api.ErrForm},
	} {
		if got := check(code(t, text)); got != want {
			t.Errorf("%s: %v, not %v", text, got, want)
		}
	}
}

func TestP19_1AndE4HowMany(t *testing.T) {
	c := code(t, "stop 0 0")
	for _, many := range []int{0, 1, 2, api.MaxCode - 1, api.MaxCode, api.MaxCode + 1, api.MaxCode + 2, 5000} {
		want := told{0, api.OK}
		if many == 0 || many > api.MaxCode {
			want = told{-1, api.ErrForm}
		}
		for _, i := range instrs("stop 0 0; jump 0 0") {
			c.List = slices.Repeat([]api.Instr{i}, many)
			if got := check(c); got != want {
				t.Error(many, got)
			}
		}
		// What is too much is so ahead of what is wrong.
		c.List = make([]api.Instr, many)
		if want.errno == api.OK {
			want = told{0, api.ErrForm}
		}
		if got := check(c); got != want {
			t.Error(many, got)
		}
	}
	c.List = nil
	if got := check(c); got != (told{-1, api.ErrForm}) {
		t.Error(got)
	}
	if got := check(api.Code{}); got != (told{-1, api.ErrForm}) {
		t.Error(got)
	}
	// The last of as many as may be, and what leads to it.
	c.List = append(slices.Repeat(instrs("jump 0 299"), api.MaxCode-1), instrs("stop 0 0")...)
	if got := check(c); got != (told{0, api.OK}) {
		t.Error(got)
	}
	c.List[api.MaxCode-2].To = api.MaxCode
	if got := check(c); got != (told{api.MaxCode - 2, api.ErrRange}) {
		t.Error(got)
	}
	c.List[api.MaxCode-2].To, c.List[api.MaxCode-1] = 0, api.Instr{Kind: api.SetInstr}
	if got := check(c); got != (told{api.MaxCode - 1, api.ErrState}) {
		t.Error(got)
	}
}

// Programs that may have no code, whatever the instructions are.
func TestP19_1Programs(t *testing.T) {
	for text, right := range map[string]bool{
		"": true, "(int a)": true, "(int a) (set a 1)": true, "(nint a) (each (push a + in 1))": true, "(while true)": true, "(if true () ())": true,
		// Not in the normal form.
		"(nint a) (each (pull a + in 1))": false, "(nint a) (bfs a 0)": false, "(loop true)": false, "(while true (loop false))": false, "(if true () ((loop true)))": false,
		// They do not fit.
		"(set a 1)": false, "(int a) (set a true)": false, "(int a) (int a)": false, "(while 1)": false, "(nint a) (each (put a (far a)))": false,
		// They clash.
		"(nint a) (each (put a 1) (push a + out 1))": false, "(nint a) (while false (each (put a 1) (put a 2)))": false, "(nint a) (each (push a + out 1) (push a max out 1))": false,
		// Both.
		"(nint a) (each (put a true) (put a 2))": false, "(nint a) (each (pull a + in true) (put a 2))": false,
	} {
		p := source(t, text)
		if mayHave(p) != right {
			t.Fatal(text)
		}
		want := told{-1, api.ErrForm}
		if right {
			want = told{0, api.OK}
		}
		if got := check(api.Code{Program: p, List: instrs("stop 0 0")}); got != want {
			t.Errorf("%s: %v, not %v", text, got, want)
		}
		for _, list := range [][]api.Instr{nil, instrs("none 0 0"), instrs("stop 3 3"), make([]api.Instr, api.MaxCode+1)} {
			if got := check(api.Code{Program: p, List: list}); !right && got != want || got.errno != api.ErrForm && got.errno != api.ErrRange {
				t.Errorf("%s: %v", text, got)
			}
		}
	}
	for what, spoil := range proof.Spoilers() {
		p := source(t, proof.Sturdy)
		if got := check(api.Code{Program: p, List: instrs("stop 0 0")}); got != (told{0, api.OK}) {
			t.Fatal(got)
		}
		spoil(&p)
		if prog.Sound(p) {
			t.Fatal(what)
		}
		for _, text := range []string{"stop 0 0", "set 0 0; stop 0 0", "none 0 0", "set 99 99"} {
			c := api.Code{Program: p, List: instrs(text)}
			if got := check(c); got != (told{-1, api.ErrForm}) {
				t.Errorf("%s, %s: %v", what, text, got)
			}
			if s, e := ir.Print(c); s != "" || e != api.ErrForm {
				t.Errorf("%s, %s: %q, %d", what, text, s, e)
			}
		}
		if c, e := ir.Parse(p, "0 stop\n"); e != api.ErrForm || !isEmpty(c) {
			t.Errorf("%s: %v, %d", what, c, e)
		}
	}
}

func isEmpty(c api.Code) bool {
	p := c.Program
	return p.Decls == nil && p.Exprs == nil && p.Stmts == nil && p.Main == nil && c.List == nil
}

// P19.1 by the model, P19.2's Print and Reached by theirs, P19.3, P19.4 and P19.5 of all code that may be run.
func TestP19_1ToP19_5OfManyLists(t *testing.T) {
	t.Parallel()
	p := source(t, several)
	found := map[told]int{}
	lists(func(l []api.Instr) {
		c := api.Code{Program: p, List: l}
		got := check(c)
		if want := plainCheck(c, true); got != want {
			t.Fatalf("%v: %v, not %v", l, got, want)
		}
		found[got]++
		if r := ir.Reached(c); !slices.Equal(r, plainReached(c)) {
			t.Fatalf("%v: %v, not %v", l, r, plainReached(c))
		}
		if got.errno != api.OK {
			return
		}
		text := plainPrint(l)
		if s, e := ir.Print(c); s != text || e != api.OK {
			t.Fatalf("%v: %q, %d, not %q", l, s, e, text)
		}
		if d, e := ir.Parse(p, text); e != api.OK || !ir.Same(c, d) {
			t.Fatalf("%q: %v, %d", text, d, e)
		}
		wantClosed(t, c)
	})
	for _, want := range []told{{0, api.OK}, {-1, api.ErrForm}, {0, api.ErrForm}, {1, api.ErrForm}, {0, api.ErrRange}, {1, api.ErrRange}, {0, api.ErrState}, {1, api.ErrState}, {2, api.ErrState}, {3, api.ErrState}} {
		if found[want] == 0 {
			t.Error("never:", want)
		}
	}
	if found[told{0, api.OK}] < 1000 {
		t.Error(found)
	}
}

// wantClosed asks that no way leads behind the end, or to what is taken but from what is sent just ahead, of the same statement.
func wantClosed(t *testing.T, c api.Code) {
	t.Helper()
	for at, i := range c.List {
		next := ir.Next(c, at)
		if len(next) == 0 && i.Kind != api.Stop {
			t.Fatalf("%v: none behind %d", c.List, at)
		}
		for _, to := range next {
			if to < 0 || to >= len(c.List) {
				t.Fatalf("%v: from %d to %d", c.List, at, to)
			}
			if taken := c.List[to]; taken.Kind == api.TakeInstr && (i.Kind != api.SendInstr || to != at+1 || i.At != taken.At) {
				t.Fatalf("%v: from %d to what is taken at %d", c.List, at, to)
			}
		}
	}
	if c.List[0].Kind == api.TakeInstr {
		t.Fatal(c.List)
	}
}

// The same of code that is longer: each that comes of one by another instruction somewhere.
func TestP19_3AndP19_4OfLongerCode(t *testing.T) {
	t.Parallel()
	p := source(t, several)
	all := instrs("set 0 0; fold 1 0; send 3 0; take 3 0; send 5 0; take 5 0; stop 0 0; none 0 0; eight 0 0; take 3 1")
	for to := -1; to <= 13; to++ {
		all = append(all, api.Instr{Kind: api.Unless, At: 2, To: to}, api.Instr{Kind: api.Unless, At: 4, To: to}, api.Instr{Kind: api.Jump, To: to})
	}
	from := instrs("unless 2 3; set 0 0; jump 0 4; fold 1 0; unless 4 8; send 3 0; take 3 0; jump 0 4; send 5 0; take 5 0; jump 0 11; stop 0 0")
	right := 0
	for i := range from {
		for j := range from {
			for _, one := range all {
				for _, other := range []api.Instr{one, {Kind: api.Stop}, {Kind: api.SendInstr, At: 3}, {Kind: api.TakeInstr, At: 3}, {Kind: api.Jump, To: 4}} {
					c := api.Code{Program: p, List: slices.Clone(from)}
					c.List[i], c.List[j] = one, other
					got := check(c)
					if want := plainCheck(c, true); got != want {
						t.Fatalf("%v: %v, not %v", c.List, got, want)
					}
					if got.errno == api.OK {
						right++
						wantClosed(t, c)
					}
				}
			}
		}
	}
	if right < 1000 {
		t.Error(right)
	}
}

func TestP19_1LongNames(t *testing.T) {
	c := api.Code{Program: source(t, "(int "+strings.Repeat("x", api.MaxName)+") (set "+strings.Repeat("x", api.MaxName)+" 1)"), List: instrs("set 0 0; stop 0 0")}
	if got := check(c); got != (told{0, api.OK}) {
		t.Error(got)
	}
	c.Program.Decls[0].Name += "x"
	if got := check(c); got != (told{-1, api.ErrForm}) {
		t.Error(got)
	}
}
