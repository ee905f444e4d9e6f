package proof

import (
	"testing"

	"reticule/api"
)

func TestCodeHasSpareRoom(t *testing.T) {
	c := api.Code{Program: api.Program{Main: []int{3}}, List: []api.Instr{{Kind: api.Stop}}}
	d := Code(c)
	if !Apart(c, d) || WholeCode(c) == WholeCode(d) || WholeCode(d) != WholeCode(Code(c)) {
		t.Error(WholeCode(c), WholeCode(d))
	}
	want := WholeCode(d)
	_ = append(d.List, api.Instr{})
	if WholeCode(d) == want {
		t.Error("what stands in spare room is not told")
	}
}

func TestSharedCode(t *testing.T) {
	c := api.Code{Program: api.Program{Stmts: []api.Stmt{{Then: []int{2}}}, Main: []int{3}}, List: []api.Instr{{Kind: api.Stop}}}
	kept := Code(c)
	for what, call := range map[string]func(api.Code) api.Code{
		"":                            Code,
		"lists have memory in common": func(c api.Code) api.Code { d := Code(c); d.Program.Main = c.Program.Main; return d },
		"what was handed in changed":  func(c api.Code) api.Code { c.List[:2][1].At = 5; return Code(c) },
	} {
		if got := SharedCode(c, func(c api.Code) (api.Code, api.Errno) { return call(c), api.OK }); got != what {
			t.Errorf("%q, not %q", got, what)
		}
	}
	for what, call := range map[string]func(api.Code) (api.Code, api.Errno){
		"the code":  func(c api.Code) (api.Code, api.Errno) { return c, api.OK },
		"its list":  func(c api.Code) (api.Code, api.Errno) { d := Code(c); d.List = c.List; return d, api.OK },
		"one's own": func(api.Code) (api.Code, api.Errno) { return kept, api.OK },
		"a list one's own": func(c api.Code) (api.Code, api.Errno) {
			return api.Code{Program: Program(c.Program), List: kept.List}, api.OK
		},
	} {
		if SharedCode(c, call) == "" {
			t.Error(what)
		}
	}
}
