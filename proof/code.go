package proof

import (
	"fmt"

	"reticule/api"
)

// Code is code anew, with things in the spare room behind the ends of its lists.
func Code(c api.Code) api.Code {
	return api.Code{Program: Program(c.Program), List: Roomy(c.List, api.Instr{At: 77})}
}

// WholeCode tells all of code, what stands in the spare room behind the ends of its lists, too.
func WholeCode(c api.Code) string {
	return Whole(c.Program) + fmt.Sprint(c.List[:cap(c.List)])
}

// SharedCode tells of a call that makes code of other code what Shared does of programs.
func SharedCode(from api.Code, call func(api.Code) (api.Code, api.Errno)) string {
	c := Code(from)
	whole := WholeCode(c)
	first, wrong := call(c)
	second, _ := call(c)
	was := fmt.Sprint(second)
	if WholeCode(c) != whole {
		return "what was handed in changed"
	}
	if !Apart(c, first, second) {
		return "lists have memory in common"
	}
	SpoilCode(first)
	if third, again := call(c); again != wrong || fmt.Sprint(second) != was || fmt.Sprint(third) != was || WholeCode(c) != whole {
		return "what was answered changes something"
	}
	fourth, _ := call(c)
	SpoilCode(c)
	if fmt.Sprint(fourth) != was {
		return "what was answered changed"
	}
	return ""
}

// SpoilCode fills all lists of code, and the spare room behind their ends.
func SpoilCode(c api.Code) {
	spoilAll(c.Program)
	Spoil(c.List, api.Instr{Kind: 99})
}
