package ir_test

import (
	"slices"
	"testing"

	"reticule/api"
	"reticule/ir"
)

func TestP19_2Next(t *testing.T) {
	for _, c := range []struct {
		text string
		want [][]int
	}{
		{"set 0 0; fold 1 0; send 3 0; take 3 0; unless 2 1; jump 0 0; stop 0 0", [][]int{{1}, {2}, {3}, {4}, {5, 1}, {0}, nil}},
		// To the one behind, and to itself.
		{"unless 2 1; unless 2 1; jump 0 2; jump 0 4; stop 0 0", [][]int{{1, 1}, {2, 1}, {2}, {4}, nil}},
		// To, and the one behind, may be no places.
		{"unless 2 -1; jump 0 -7; unless 2 99; jump 0 5; set 0 0", [][]int{{1, -1}, {-7}, {3, 99}, {5}, {5}}},
		{"unless 2 0", [][]int{{1, 0}}}, {"unless 2 1", [][]int{{1, 1}}}, {"jump 0 1", [][]int{{1}}}, {"take 3 0", [][]int{{1}}}, {"send 3 0", [][]int{{1}}}, {"fold 1 0", [][]int{{1}}}, {"stop 0 0", [][]int{nil}},
		// Of no matter: At, a To of what leads nowhere, where it stands; what has no kind goes on to the one behind.
		{"stop 9 9; set 9 9; take 9 -9; send -1 5; fold 3 3; jump 5 0; none 4 4; eight 0 2", [][]int{nil, {2}, {3}, {4}, {5}, {0}, {7}, {8}}},
	} {
		code := code(t, c.text)
		for at, want := range c.want {
			if got := ir.Next(code, at); !slices.Equal(got, want) {
				t.Errorf("%s: %d: %v, not %v", c.text, at, got, want)
			}
			if got := ir.Next(api.Code{List: code.List}, at); !slices.Equal(got, want) {
				t.Errorf("%s, without a program: %d: %v, not %v", c.text, at, got, want)
			}
		}
		for _, at := range []int{-1 << 63, -2, -1, len(c.want), len(c.want) + 1, 1 << 40, 1<<63 - 1} {
			if got := ir.Next(code, at); len(got) != 0 {
				t.Errorf("%s: %d: %v", c.text, at, got)
			}
		}
	}
	for at := -1; at < 2; at++ {
		if got := ir.Next(api.Code{}, at); len(got) != 0 {
			t.Error(at, got)
		}
	}
	great := api.Code{List: []api.Instr{{Kind: api.Unless, To: 1<<63 - 1}, {Kind: api.Jump, To: -1 << 63}}}
	if one, other := ir.Next(great, 0), ir.Next(great, 1); !slices.Equal(one, []int{1, 1<<63 - 1}) || !slices.Equal(other, []int{-1 << 63}) {
		t.Error(one, other)
	}
}

func TestP19_2Reached(t *testing.T) {
	for text, want := range map[string]string{
		"stop 0 0": "+", "set 0 0": "+", "jump 0 0": "+", "set 0 0; fold 1 0; send 3 0; take 3 0; stop 0 0": "+++++",
		// What is never come to.
		"stop 0 0; set 0 0; stop 0 0": "+--", "jump 0 2; set 0 0; stop 0 0": "+-+", "jump 0 0; stop 0 0; jump 0 1": "+--", "unless 2 2; stop 0 0; stop 0 0; jump 0 0": "+++-", "stop 0 0; jump 0 0; jump 0 1": "+--",
		// What comes round, within itself and to one another; what is come to from behind.
		"unless 2 2; jump 0 0; stop 0 0": "+++", "jump 0 1; jump 0 2; jump 0 0; stop 0 0": "+++-", "jump 0 3; set 0 0; stop 0 0; jump 0 1": "++++", "jump 0 4; stop 0 0; jump 0 1; set 0 0; unless 4 2; jump 0 4": "+++-++", "jump 0 4; stop 0 0; jump 0 1; set 0 0; unless 4 4; jump 0 4": "+---++",
		"jump 0 2; unless 4 1; unless 4 0; jump 0 2; jump 0 1": "+-++-", "unless 2 4; unless 2 6; unless 2 2; stop 0 0; jump 0 4; set 0 0; jump 0 0": "+++++-+",
		// To that are no places are passed over.
		"jump 0 -1; stop 0 0": "+-", "jump 0 2; stop 0 0": "+-", "jump 0 99; stop 0 0": "+-", "unless 2 -1; stop 0 0; stop 0 0": "++-", "unless 2 3; set 0 0; jump 0 -1": "+++", "unless 2 99; jump 0 3; stop 0 0; set 0 0": "++-+", "unless 2 0": "+",
		// Of no matter: a To of what leads nowhere, At, what has no kind.
		"stop 0 1; set 0 0": "+-", "set 0 5; none 7 7; eight 0 3; stop 0 0; set 0 0": "++++-", "take 3 0; send 9 0; stop 4 0; take 3 0": "+++-",
	} {
		got := ""
		for _, is := range ir.Reached(code(t, text)) {
			if is {
				got += "+"
			} else {
				got += "-"
			}
		}
		if got != want {
			t.Errorf("%s: %s, not %s", text, got, want)
		}
	}
	if got := ir.Reached(api.Code{}); len(got) != 0 {
		t.Error(got)
	}
	if got := ir.Reached(api.Code{List: []api.Instr{{Kind: api.Jump, To: -1 << 63}, {Kind: api.Jump, To: 1<<63 - 1}}}); !slices.Equal(got, []bool{true, false}) {
		t.Error(got)
	}
}

// More than may be run: one behind the other, the last one first, and from all to all.
func TestP1ReachedOfLongLists(t *testing.T) {
	const many = 100000
	rising, falling, both := make([]api.Instr, many), make([]api.Instr, many), make([]api.Instr, many)
	for at := range many {
		rising[at] = api.Instr{Kind: api.SetInstr}
		falling[at] = api.Instr{Kind: api.Jump, To: (at + many - 1) % many}
		both[at] = api.Instr{Kind: api.Unless, To: at * 7 % many}
	}
	for _, l := range [][]api.Instr{rising, falling, both} {
		if got := ir.Reached(api.Code{List: l}); len(got) != many || slices.Contains(got, false) {
			t.Error("not all are reached:", l[1])
		}
	}
}

func TestP19_2States(t *testing.T) {
	for text, want := range map[string]int{
		"stop 0 0": 0, "set 0 0; jump 0 0; unless 2 0; take 3 0; stop 0 0": 0, "send 3 0; take 3 0; stop 0 0": 1, "fold 1 0": 1, "fold 1 0; send 3 0; take 3 0; send 5 0; take 5 0; fold 1 0; stop 0 0": 4,
		// Of no matter: whether it is come to, or may be run.
		"stop 0 0; fold 1 0; send 3 0": 2, "send 9 9; fold 9 9": 2, "none 0 0; eight 0 0": 0,
	} {
		if got := ir.States(code(t, text)); got != want {
			t.Errorf("%s: %d, not %d", text, got, want)
		}
	}
	if got := ir.States(api.Code{}); got != 0 {
		t.Error(got)
	}
	if got := ir.States(api.Code{List: slices.Repeat(instrs("fold 1 0; send 3 0; take 3 0"), 5000)}); got != 10000 {
		t.Error(got)
	}
}

func TestP19_2Same(t *testing.T) {
	const text = "set 0 0; send 3 0; take 3 0; unless 4 1; jump 0 0; stop 0 0"
	c := code(t, text)
	if d := code(t, text); !ir.Same(c, d) || !ir.Same(d, c) || !ir.Same(c, c) {
		t.Error("it is not the same")
	}
	for what, change := range map[string]func(*api.Code){
		"another kind":        func(d *api.Code) { d.List[0].Kind = api.FoldInstr },
		"another At":          func(d *api.Code) { d.List[3].At = 2 },
		"another To":          func(d *api.Code) { d.List[4].To = 1 },
		"another last one":    func(d *api.Code) { d.List[5].To = 1 },
		"one fewer":           func(d *api.Code) { d.List = d.List[:5] },
		"one more":            func(d *api.Code) { d.List = append(d.List, api.Instr{}) },
		"none":                func(d *api.Code) { d.List = nil },
		"another order":       func(d *api.Code) { d.List[0], d.List[1] = d.List[1], d.List[0] },
		"another number":      func(d *api.Code) { d.Program.Exprs[1].Num = 7 },
		"another name":        func(d *api.Code) { d.Program.Decls[0].Name = "j" },
		"another act":         func(d *api.Code) { d.Program.Stmts[3].Acts[0].In = true },
		"another branch":      func(d *api.Code) { d.Program.Stmts[2].Else = nil },
		"another Main":        func(d *api.Code) { d.Program.Main = d.Program.Main[:1] },
		"no program":          func(d *api.Code) { d.Program = api.Program{} },
		"a program of others": func(d *api.Code) { d.Program = source(t, "(int i) (set i 2)") },
	} {
		d := code(t, text)
		change(&d)
		if ir.Same(c, d) || ir.Same(d, c) || !ir.Same(d, d) {
			t.Error(what)
		}
	}
	// A list may be nil, where it is empty; code that may not be run is the same as itself.
	empty := api.Code{Program: api.Program{Decls: []api.Decl{}, Exprs: []api.Expr{}, Stmts: []api.Stmt{}, Main: []int{}}, List: []api.Instr{}}
	if !ir.Same(api.Code{}, empty) || !ir.Same(empty, api.Code{}) || ir.Same(empty, c) {
		t.Error("of no instructions")
	}
	if odd := (api.Code{Program: api.Program{Main: []int{-1}}, List: instrs("eight 9 9")}); !ir.Same(odd, odd) || ir.Same(odd, empty) {
		t.Error("of code that may not be run")
	}
}
