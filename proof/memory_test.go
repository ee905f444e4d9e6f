package proof

import (
	"testing"

	"reticule/api"
)

func TestApart(t *testing.T) {
	l := make([]int, 4)
	m := []int{1, 2}
	for i, c := range []struct {
		things []any
		want   bool
	}{
		{nil, true}, {[]any{l}, true}, {[]any{l, m}, true}, {[]any{m, l, nil, []int{}, 5, "a"}, true},
		{[]any{l, m, l}, false}, {[]any{l[:1], l[2:3]}, false}, {[]any{l[:1:1], l[2:3]}, true}, {[]any{l[:0], l[3:]}, false},
		{[]any{[][]int{l, m}}, true}, {[]any{[][]int{m, m}}, false},
		{[]any{api.Stmt{Then: l, Else: m}}, true}, {[]any{api.Stmt{Then: m, Else: m}}, false},
		{[]any{api.Program{Exprs: []api.Expr{{Kids: l}}, Main: m}}, true}, {[]any{api.Program{Exprs: []api.Expr{{Kids: m}}, Main: m}}, false},
	} {
		if Apart(c.things...) != c.want {
			t.Error(i, c.things)
		}
	}
}

func TestProgramHasSpareRoom(t *testing.T) {
	p := api.Program{Exprs: []api.Expr{{Kids: []int{1}}}, Stmts: []api.Stmt{{Then: []int{2}}}, Main: []int{3}}
	q := Program(p)
	if !Apart(p, q) || Whole(p) == Whole(q) || Whole(q) != Whole(Program(p)) {
		t.Error(Whole(p), Whole(q))
	}
	want := Whole(q)
	_ = append(q.Stmts[0].Else, 4)
	if Whole(q) == want {
		t.Error("what stands in spare room is not told")
	}
}

func TestShared(t *testing.T) {
	p := api.Program{Exprs: []api.Expr{{Kids: []int{1}}}, Stmts: []api.Stmt{{Then: []int{2}, Acts: []api.Act{{E: 5}}}}, Main: []int{3}}
	kept := Program(p)
	for what, call := range map[string]func(api.Program) api.Program{
		"":                            Program,
		"lists have memory in common": func(p api.Program) api.Program { q := Program(p); q.Stmts[0].Acts = p.Stmts[0].Acts; return q },
		"what was handed in changed":  func(p api.Program) api.Program { p.Main[:2][1] = 5; return Program(p) },
	} {
		if got := Shared(p, func(p api.Program) (api.Program, api.Errno) { return call(p), api.OK }); got != what {
			t.Errorf("%q, not %q", got, what)
		}
	}
	for what, call := range map[string]func(api.Program) (api.Program, api.Errno){
		"the program": func(p api.Program) (api.Program, api.Errno) { return p, api.OK },
		"one's own":   func(api.Program) (api.Program, api.Errno) { return kept, api.OK },
	} {
		if Shared(p, call) == "" {
			t.Error(what)
		}
	}
}
