package ir_test

import (
	"fmt"
	"strings"
	"testing"

	"reticule/api"
	"reticule/clash"
	"reticule/ir"
	"reticule/prog"
	"reticule/proof"
	"reticule/typed"
)

// The calls have the signatures that the chapter lists.
var (
	_ func(c api.Code) (int, api.Errno)                   = ir.Check
	_ func(c api.Code, at int) []int                      = ir.Next
	_ func(c api.Code) []bool                             = ir.Reached
	_ func(c api.Code) int                                = ir.States
	_ func(c api.Code) (string, api.Errno)                = ir.Print
	_ func(c, d api.Code) bool                            = ir.Same
	_ func(p api.Program, s string) (api.Code, api.Errno) = ir.Parse
)

// several is the text of a program with a statement of each kind that the normal form has: set at 0, fold at 1, if at 2, each at 3, while at 4, each at 5.
const several = "(int i) (bool b) (nint a) (if b ((set i 1)) ((fold i + 1))) (while b (each (push a + out 1))) (each (put a 2))"

func source(t *testing.T, text string) api.Program {
	t.Helper()
	p, at, e := prog.Source(text)
	if at != 0 || e != api.OK {
		t.Fatalf("%q is no program: %d, %d", text, at, e)
	}
	return p
}

// words are those of instructions in the tests: as they are printed, and those of kinds that there are not.
func words() []string {
	return strings.Fields("none set fold send take unless jump stop eight")
}

// instrs are instructions of a text: a word, At and To of each, with semicolons between.
func instrs(text string) []api.Instr {
	var l []api.Instr
	for one := range strings.SplitSeq(text, ";") {
		var word string
		var i api.Instr
		if n, _ := fmt.Sscan(one, &word, &i.At, &i.To); n != 3 {
			panic("no instruction: " + one)
		}
		for kind, w := range words() {
			if w == word {
				i.Kind = api.InstrKind(kind)
			}
		}
		l = append(l, i)
	}
	return l
}

func code(t *testing.T, text string) api.Code {
	t.Helper()
	return api.Code{Program: source(t, several), List: instrs(text)}
}

// told is what Check answers.
type told struct {
	at    int
	errno api.Errno
}

func check(c api.Code) told {
	at, e := ir.Check(c)
	return told{at, e}
}

// mayHave tells plainly whether a program may have code.
func mayHave(p api.Program) bool {
	if _, e := typed.Check(p); e != api.OK {
		return false
	}
	if _, e := clash.Check(p); e != api.OK {
		return false
	}
	text, _ := prog.Text(p)
	for _, word := range []string{"(pull ", "(bfs ", "(loop "} {
		if strings.Contains(text, word) {
			return false
		}
	}
	return true
}

// plainCheck is Check, where right tells of the program.
func plainCheck(c api.Code, right bool) told {
	if !right || len(c.List) < 1 || len(c.List) > api.MaxCode {
		return told{-1, api.ErrForm}
	}
	for at, i := range c.List {
		if !plainForm(c, i) {
			return told{at, api.ErrForm}
		}
		jumps := i.Kind == api.Unless || i.Kind == api.Jump
		if jumps && (i.To < 0 || i.To >= len(c.List)) || !jumps && i.To != 0 {
			return told{at, api.ErrRange}
		}
		behind, ahead := api.Instr{}, api.Instr{}
		if at+1 < len(c.List) {
			behind = c.List[at+1]
		}
		if at > 0 {
			ahead = c.List[at-1]
		}
		if i.Kind == api.SendInstr && (behind.Kind != api.TakeInstr || behind.At != i.At) ||
			i.Kind == api.TakeInstr && (ahead.Kind != api.SendInstr || ahead.At != i.At) ||
			jumps && c.List[i.To].Kind == api.TakeInstr ||
			at == len(c.List)-1 && i.Kind != api.Stop && i.Kind != api.Jump {
			return told{at, api.ErrState}
		}
	}
	return told{0, api.OK}
}

func plainForm(c api.Code, i api.Instr) bool {
	if i.Kind == api.Jump || i.Kind == api.Stop {
		return i.At == 0
	}
	for at, s := range c.Program.Stmts {
		if at != i.At {
			continue
		}
		for _, fits := range map[api.InstrKind][]api.StmtKind{api.SetInstr: {api.SetIt}, api.FoldInstr: {api.FoldIt}, api.SendInstr: {api.EachIt}, api.TakeInstr: {api.EachIt}, api.Unless: {api.IfIt, api.WhileIt}}[i.Kind] {
			if fits == s.Kind {
				return true
			}
		}
	}
	return false
}

// plainPrint is code that may be run as text.
func plainPrint(l []api.Instr) string {
	text := ""
	for at, i := range l {
		text += fmt.Sprint(at, " ", words()[i.Kind])
		switch words()[i.Kind] {
		case "jump":
			text += fmt.Sprint(" ", i.To)
		case "unless":
			text += fmt.Sprint(" ", i.At, " ", i.To)
		case "stop":
		default:
			text += fmt.Sprint(" ", i.At)
		}
		text += "\n"
	}
	return text
}

// plainReached is Reached: what one is come to of, as long as there is more of it.
func plainReached(c api.Code) []bool {
	l := make([]bool, len(c.List))
	for range c.List {
		for at, i := range c.List {
			if at == 0 {
				l[at] = true
			}
			if !l[at] {
				continue
			}
			if i.Kind != api.Jump && i.Kind != api.Stop && at+1 < len(l) {
				l[at+1] = true
			}
			if (i.Kind == api.Jump || i.Kind == api.Unless) && 0 <= i.To && i.To < len(l) {
				l[i.To] = true
			}
		}
	}
	return l
}

// lists does f with many lists of instructions for the program several: all of one, of two and of three of those that are right there, and with one of them changed.
func lists(f func([]api.Instr)) {
	all := instrs("set 0 0; fold 1 0; send 3 0; take 3 0; send 5 0; take 5 0; unless 2 0; unless 4 1; unless 4 2; jump 0 0; jump 0 2; jump 0 1; stop 0 0")
	proof.Rows(4, all, f)
	proof.Rows(2, all, func(l []api.Instr) {
		for at := range l {
			for kind := range len(words()) {
				for _, n := range []int{-1, 0, 1, 2, 3, 4, 5, 6, 1 << 40, -1 << 63} {
					was := l[at]
					for _, i := range []api.Instr{{Kind: api.InstrKind(kind), At: n, To: was.To}, {Kind: api.InstrKind(kind), At: was.At, To: n}} {
						l[at] = i
						f(l)
					}
					l[at] = was
				}
			}
		}
	})
}
