package gen_test

import (
	"slices"
	"strconv"
	"strings"
	"sync"
	"testing"

	"reticule/api"
	"reticule/clash"
	"reticule/column"
	"reticule/gen"
	"reticule/graph"
	"reticule/ir"
	"reticule/norm"
	"reticule/plain"
	"reticule/prog"
	"reticule/proof"
	"reticule/typed"
)

// The calls have the signatures that the chapter lists.
var (
	_ func(p api.Program) (api.Code, api.Errno)                                                   = gen.Compile
	_ func(c api.Code, g *graph.Graph, t *column.Table, most int) (*column.Table, int, api.Errno) = gen.Run
	_ func(c api.Code) (api.Code, api.Errno)                                                      = gen.Merged
	_ func(c api.Code) (api.Code, api.Errno)                                                      = gen.Pruned
)

func source(t *testing.T, text string) api.Program {
	t.Helper()
	p, at, e := prog.Source(text)
	if at != 0 || e != api.OK {
		t.Fatalf("%q is no program: %d, %d", text, at, e)
	}
	return p
}

func text(p api.Program) string {
	s, _ := prog.Text(p)
	return s
}

func printed(c api.Code) string {
	s, _ := ir.Print(c)
	return strings.ReplaceAll(strings.TrimSuffix(s, "\n"), "\n", "; ")
}

// lines are instructions as they are printed, of words with semicolons between: those that lead lead to the places that they name.
func lines(text string) string {
	var l []string
	for i, one := range strings.Split(text, ";") {
		l = append(l, strconv.Itoa(i)+" "+strings.TrimSpace(one)+"\n")
	}
	return strings.Join(l, "")
}

// code is that of a program whose instructions are such words.
func code(t *testing.T, from, words string) api.Code {
	t.Helper()
	c, e := ir.Parse(source(t, from), lines(words))
	if e != api.OK {
		t.Fatalf("%q is no code of %s: %d", words, from, e)
	}
	return c
}

func isEmpty(c api.Code) bool {
	p := c.Program
	return p.Decls == nil && p.Exprs == nil && p.Stmts == nil && p.Main == nil && c.List == nil
}

// mayHave tells whether a program may have code.
func mayHave(p api.Program) bool {
	_, misfit := typed.Check(p)
	_, conflict := clash.Check(p)
	return norm.Is(p) && misfit == api.OK && conflict == api.OK
}

// coded are the instructions of brackets, those that lead told by how far; stmts is how many statements came ahead.
func coded(l []proof.Bracket, stmts *int) []api.Instr {
	var out []api.Instr
	for _, b := range l {
		out = append(out, codedOne(b, stmts)...)
	}
	return out
}

func codedOne(b proof.Bracket, stmts *int) []api.Instr {
	var then, other []api.Instr
	switch b.First() {
	case "if":
		then = coded(b.Parts[2].Parts, stmts)
		other = coded(b.Parts[3].Parts, stmts)
	case "while":
		then = coded(b.Parts[2:], stmts)
	}
	at := *stmts
	if !b.Declares() {
		*stmts++
	}
	switch b.First() {
	case "set":
		return []api.Instr{{Kind: api.SetInstr, At: at}}
	case "fold":
		return []api.Instr{{Kind: api.FoldInstr, At: at}}
	case "each":
		return []api.Instr{{Kind: api.SendInstr, At: at}, {Kind: api.TakeInstr, At: at}}
	case "if":
		return slices.Concat([]api.Instr{{Kind: api.Unless, At: at, To: len(then) + 2}}, then, []api.Instr{{Kind: api.Jump, To: len(other) + 1}}, other)
	case "while":
		return slices.Concat([]api.Instr{{Kind: api.Unless, At: at, To: len(then) + 2}}, then, []api.Instr{{Kind: api.Jump, To: -len(then) - 1}})
	}
	return nil
}

// plainCode is the code of a program's text.
func plainCode(p api.Program) []api.Instr {
	stmts := 0
	l := coded(proof.Brackets(text(p)), &stmts)
	for at := range l {
		if l[at].Kind == api.Unless || l[at].Kind == api.Jump {
			l[at].To += at
		}
	}
	return append(l, api.Instr{Kind: api.Stop})
}

// plainRun is the world behind code that may be run, and in how many steps; false, if these are more than most.
func plainRun(c api.Code, w plain.World, most int) (plain.World, int, bool) {
	at := 0
	for steps := 1; steps <= most; steps++ {
		i := c.List[at]
		at++
		switch i.Kind {
		case api.SetInstr, api.FoldInstr:
			w, _, _ = w.Run(c.Program, []int{i.At}, 1, plain.AsIs)
		case api.TakeInstr:
			w, _ = w.Region(c.Program, c.Program.Stmts[i.At].Acts, plain.AsIs)
		case api.Unless:
			if is, _ := w.Value(c.Program, c.Program.Stmts[i.At].E, -1, -1, -1); is == 0 {
				at = i.To
			}
		case api.Jump:
			at = i.To
		case api.Stop:
			return w, steps, true
		}
	}
	return plain.World{}, 0, false
}

// wantRun asks that Run comes to what the plain one does, and tells whether it comes to an end.
func wantRun(t *testing.T, c api.Code, w plain.World, most int) bool {
	t.Helper()
	want, steps, ends := plainRun(c, w, min(most, api.MaxSteps))
	u, n, e := gen.Run(c, w.Graph(), w.Table(), most)
	if ends && (e != api.OK || n != steps || !u.Same(want.Table())) {
		t.Errorf("%s, %s, in %d steps: %d, %d", text(c.Program), printed(c), most, n, e)
	}
	if !ends && (e != api.ErrCap || n != 0 || u != nil) {
		t.Errorf("%s, %s, in %d steps: %d, %d, though it does not end", text(c.Program), printed(c), most, n, e)
	}
	return ends
}

// plainMerged are instructions without jumps to jumps.
func plainMerged(l []api.Instr) []api.Instr {
	out := slices.Clone(l)
	for at, i := range l {
		if i.Kind != api.Unless && i.Kind != api.Jump {
			continue
		}
		seen := map[int]int{}
		to := i.To
		for l[to].Kind == api.Jump && seen[to] == 0 {
			seen[to]++
			to = l[to].To
		}
		if l[to].Kind != api.Jump {
			out[at].To = to
		}
	}
	return out
}

// plainPruned are instructions of which none is never come to: the last one that is not goes, as long as there is one.
func plainPruned(l []api.Instr) []api.Instr {
	reached := ir.Reached(api.Code{List: l})
	l = slices.Clone(l)
	for at := len(l) - 1; at >= 0; at-- {
		if reached[at] {
			continue
		}
		l = slices.Delete(l, at, at+1)
		for n := range l {
			if l[n].To > at {
				l[n].To--
			}
		}
	}
	return l
}

// wantMade asks that a call makes such instructions of code, of the same program, that may be run.
func wantMade(t *testing.T, name string, call func(api.Code) (api.Code, api.Errno), c api.Code, want []api.Instr) api.Code {
	t.Helper()
	d, e := call(c)
	if e != api.OK || !slices.Equal(d.List, want) || !prog.Same(c.Program, d.Program) {
		t.Errorf("%s of %s: %v, %d, not %v", name, printed(c), d.List, e, want)
	}
	if at, e := ir.Check(d); at != 0 || e != api.OK {
		t.Errorf("%s of %s may not be run: %d, %d", name, printed(c), at, e)
	}
	return d
}

// all are programs of all brackets that there are, and what comes of them by changes, in their normal form, where they have one; nobody changes them.
var all = sync.OnceValue(func() []api.Program {
	var l []api.Program
	add := func(text string) {
		p, _, e := prog.Source(text)
		if e != api.OK {
			return
		}
		if q, e := norm.Normal(p); e == api.OK {
			l = append(l, q)
		}
		if !norm.Is(p) {
			l = append(l, p)
		}
	}
	for _, one := range append(proof.Sources(), proof.Running()...) {
		add(one)
		proof.Changed(one, []string{"(bfs ni 0)", "while", "(while b (set b false))", "(while (< i 2) (set i (+ i 1)) (if b () ((fold b and (own nb)))))", "push", "(push ni + out (own nj))", "(if b ((if (< i j) () ((set i j)))) ((while false) (set j 1)))", "(each (put ni (deg in)))", "nj", "true"}, add)
	}
	return l
})

// programs does f with all.
func programs(t *testing.T, f func(api.Program)) {
	t.Helper()
	if len(all()) < 3000 {
		t.Error("too few programs:", len(all()))
	}
	for _, p := range all() {
		f(p)
	}
}

// several is the text of a program with a statement of each kind that the normal form has: set at 0, fold at 1, if at 2, each at 3, while at 4.
const several = "(int i) (bool b) (nint a) (if b ((set i (+ i 1))) ((fold i + (own a)))) (while (< i 7) (each (push a + out 1)))"

// lists does f with code of the program several that may be run: all of up to so many instructions.
func lists(t *testing.T, most int, f func(api.Code)) {
	t.Helper()
	p := source(t, several)
	one := []api.Instr{{Kind: api.SetInstr, At: 0}, {Kind: api.FoldInstr, At: 1}, {Kind: api.SendInstr, At: 3}, {Kind: api.TakeInstr, At: 3}, {Kind: api.Stop}}
	for to := range most {
		one = append(one, api.Instr{Kind: api.Jump, To: to}, api.Instr{Kind: api.Unless, At: 2 + to%2*2, To: to})
	}
	proof.Rows(most, one, func(l []api.Instr) {
		if len(l) == 0 || l[len(l)-1].Kind != api.Stop && l[len(l)-1].Kind != api.Jump {
			return
		}
		c := api.Code{Program: p, List: l}
		if _, e := ir.Check(c); e == api.OK {
			f(c)
		}
	})
}
