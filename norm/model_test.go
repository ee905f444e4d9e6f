package norm_test

import (
	"slices"
	"strconv"
	"strings"
	"sync"
	"testing"

	"reticule/api"
	"reticule/bfs"
	"reticule/norm"
	"reticule/num"
	"reticule/prog"
	"reticule/proof"
	"reticule/typed"
)

// The calls have the signatures that the chapter lists.
var (
	_ func(p api.Program) (api.Program, api.Errno) = norm.Normal
	_ func(p api.Program) bool                     = norm.Is
	_ func(p api.Program) int                      = norm.Size
	_ func(p api.Program) int                      = norm.Loops
	_ func(p api.Program) (api.Program, api.Errno) = norm.Simple
)

func source(t *testing.T, text string) api.Program {
	t.Helper()
	p, at, e := prog.Source(text)
	if at != 0 || e != api.OK {
		t.Fatalf("%q is no program: %d, %d", text, at, e)
	}
	return p
}

func text(p api.Program) string {
	s, _ := prog.Text(p)
	return s
}

func word(text string) proof.Bracket           { return proof.Bracket{Word: text} }
func bracket(l ...proof.Bracket) proof.Bracket { return proof.Bracket{Parts: l} }
func isEmpty(p api.Program) bool {
	return p.Decls == nil && p.Exprs == nil && p.Stmts == nil && p.Main == nil
}
func with(b proof.Bracket, from int, parts []proof.Bracket) proof.Bracket {
	return bracket(slices.Concat(b.Parts[:from], parts)...)
}

// unrolled are brackets without loops that are looked at behind what is in them.
func unrolled(l []proof.Bracket) []proof.Bracket {
	var out []proof.Bracket
	for _, b := range l {
		switch b.First() {
		case "loop":
			then := unrolled(b.Parts[2:])
			out = append(append(out, then...), bracket(append([]proof.Bracket{word("while"), b.Parts[1]}, then...)...))
		case "while":
			out = append(out, with(b, 2, unrolled(b.Parts[2:])))
		case "if":
			out = append(out, with(b, 2, []proof.Bracket{bracket(unrolled(b.Parts[2].Parts)...), bracket(unrolled(b.Parts[3].Parts)...)}))
		default:
			out = append(out, b)
		}
	}
	return out
}

// pushed is a bracket in which nodes send, instead of fetching.
func pushed(b proof.Bracket, inPull bool) proof.Bracket {
	isPull := b.First() == "pull"
	var parts []proof.Bracket
	for i, part := range b.Parts {
		switch {
		case isPull && i == 0:
			part = word("push")
		case isPull && i == 3:
			part = word(map[string]string{"in": "out", "out": "in"}[part.Word])
		case inPull && i == 0 && (part.Word == "far" || part.Word == "farid"):
			part = word(map[string]string{"far": "own", "farid": "id"}[part.Word])
		case part.Word == "":
			part = pushed(part, inPull || isPull)
		}
		parts = append(parts, part)
	}
	return bracket(parts...)
}

// wantNormal asks that Normal comes to what plain texts do, and is the program.
func wantNormal(t *testing.T, p api.Program) (api.Program, api.Errno) {
	t.Helper()
	lowered, wrong := bfs.Lower(p)
	var want []proof.Bracket
	if wrong == api.OK {
		for _, b := range unrolled(proof.Brackets(text(lowered))) {
			want = append(want, pushed(b, false))
		}
		if !proof.MayBe(want) {
			wrong = api.ErrSpace
		}
	}
	q, got := norm.Normal(p)
	if got != wrong || wrong != api.OK && !isEmpty(q) || wrong == api.OK && (!prog.Sound(q) || text(q) != proof.Lines(want)) {
		t.Errorf("Normal of %s: %s, %d, not %s, %d", text(p), text(q), got, proof.Lines(want), wrong)
	}
	return q, got
}

// isLit tells whether an expression is a number or a truth, and which number that is.
func isLit(b proof.Bracket) (api.Word, bool) {
	if b.Word == "true" || b.Word == "false" {
		return map[string]api.Word{"true": 1}[b.Word], true
	}
	n, err := strconv.ParseInt(b.Word, 10, 64)
	return api.Word(n), err == nil
}

// simplest is an expression without what is known ahead.
func simplest(b proof.Bracket) proof.Bracket {
	op, is := prog.ReadOp(b.First())
	if !is {
		return b
	}
	out, all := []proof.Bracket{b.Parts[0]}, true
	var nums []api.Word
	for _, part := range b.Parts[1:] {
		part = simplest(part)
		n, lit := isLit(part)
		out, nums, all = append(out, part), append(nums, n), all && lit
	}
	if _, known := isLit(out[1]); known && op == api.If {
		return out[3-nums[0]]
	}
	if !all {
		return bracket(out...)
	}
	n, _ := num.Do(op, nums...)
	if slices.Contains(strings.Fields("= < not and or"), b.First()) {
		return word(strconv.FormatBool(n == 1))
	}
	return word(strconv.FormatInt(int64(n), 10))
}

func each(l []proof.Bracket, f func(proof.Bracket) proof.Bracket) []proof.Bracket {
	var out []proof.Bracket
	for _, b := range l {
		out = append(out, f(b))
	}
	return out
}

// behind is a bracket whose parts from a place on are simplest.
func behind(b proof.Bracket, from int) proof.Bracket {
	return with(b, from, each(b.Parts[from:], simplest))
}

func act(b proof.Bracket) proof.Bracket {
	if b.First() == "put" {
		return behind(b, 2)
	}
	return behind(b, 4)
}

// simple are statements without what is known ahead.
func simple(l []proof.Bracket) []proof.Bracket {
	var out []proof.Bracket
	for _, b := range l {
		switch b.First() {
		case "set":
			out = append(out, behind(b, 2))
		case "fold":
			out = append(out, behind(b, 3))
		case "each":
			out = append(out, with(b, 1, each(b.Parts[1:], act)))
		case "bfs":
			out = append(out, with(b, 2, append([]proof.Bracket{simplest(b.Parts[2])}, simple(b.Parts[3:])...)))
		case "loop", "while":
			e := simplest(b.Parts[1])
			if b.First() == "loop" || e.Word != "false" {
				out = append(out, with(b, 1, append([]proof.Bracket{e}, simple(b.Parts[2:])...)))
			}
		case "if":
			switch e, then, other := simplest(b.Parts[1]), simple(b.Parts[2].Parts), simple(b.Parts[3].Parts); e.Word {
			case "true":
				out = append(out, then...)
			case "false":
				out = append(out, other...)
			default:
				out = append(out, with(b, 1, []proof.Bracket{e, bracket(then...), bracket(other...)}))
			}
		default:
			out = append(out, b)
		}
	}
	return out
}

// wantSimple asks that Simple comes to what plain texts do, and is the program.
func wantSimple(t *testing.T, p api.Program) (api.Program, api.Errno) {
	t.Helper()
	q, wrong := norm.Simple(p)
	if _, misfit := typed.Check(p); misfit != api.OK {
		if wrong != api.ErrForm || !isEmpty(q) {
			t.Errorf("Simple of %s: %s, %d, though it does not fit", text(p), text(q), wrong)
		}
		return q, wrong
	}
	want := proof.Lines(simple(proof.Brackets(text(p))))
	if wrong != api.OK || !prog.Sound(q) || text(q) != want {
		t.Errorf("Simple of %s: %s, %d, not %s", text(p), text(q), wrong, want)
	}
	return q, wrong
}

// more are texts of programs that fit, and do not clash: with loops and levels within one another, acts that fetch, and what is known ahead.
func more() []string {
	var l []string
	for _, text := range []string{
		"(loop false (set i 1))", "(loop (< i 3) (set i (+ (max i 0) 1)) (loop b (set b false) (each (pull ni + out (far nj)))))",
		"(loop (and b (< i 2)) (bfs ni i (each (pull nj max in (+ (farid) (far ni))))) (set i (+ (& i 3) 1)))",
		"(bfs ni 0 (loop b (fold b and (own nb)) (set b (not b))) (each (pull nb or out (far nb)) (put nj (own ni))))",
		"(loop (< i 2) (set i (+ (& i 3) 1))) (loop (< j i) (set j (+ (max j 0) 1)) (set i (- (min i 9) 1)))",
		"(if b ((loop false (set b false))) ((loop b (each (pull nb and in (via eb)))) (loop false)))",
		"(while (< i 2) (set i (+ (& i 3) 1)) (loop false (loop b (set b false)) (each (pull ni min in (via ei)))))",
		"(if (< 1 2) ((set i (* 3 4))) ((set i (+ 1 1)))) (while (and true false) (set j 0)) (if (not true) () ((if b ((set i 7)) ())))",
		"(set i (if (= 1 1) (+ j (- 3 2)) (/ 1 0))) (each (put ni (if (< 2 1) (deg in) (+ 1 (id))) (or false (own nb))) (push nj + out (* 2 (if true 3 (via ei)))))",
		"(fold i + (narrow 8 (+ 100 100)) (if false b (= (id) (shl 1 1)))) (each (pull ni max in (+ (if false (far ni) 3) (shr -8 1))))",
		"(bfs ni (- 2 1) (if true ((set i 1) (set j 2)) ())) (loop (and false true) (while b (set i (& 7 9)) (if b () ()) (set b false)) (set b true))",
	} {
		l = append(l, proof.Head+text)
	}
	return l
}

// all are programs of all brackets that there are, that fit and do not, and what comes of them by changes; nobody changes them.
var all = sync.OnceValue(func() []api.Program {
	var l []api.Program
	add := func(text string) {
		if p, _, e := prog.Source(text); e == api.OK {
			l = append(l, p)
		}
	}
	for _, one := range append(append(proof.Sources(), proof.Running()...), more()...) {
		add(one)
		proof.Changed(one, []string{"(bfs ni 0)", "loop", "while", "(loop b (set b false))", "(loop (< i 2) (set i (+ i 1)) (loop b (bfs nj i)))", "pull", "(pull ni + out (far nj))", "(if true i 3)", "(if b 3 (+ 1 2))", "(+ 1 2)", "(not false)", "true", "false", "(if (= 1 1) ((set i (- 4 2)) (set j 1)) ())", "(while (< 2 1) (set i 2))", "nj"}, add)
	}
	return l
})

// programs does f with all.
func programs(t *testing.T, f func(api.Program)) {
	t.Helper()
	if len(all()) < 4000 {
		t.Error("too few programs:", len(all()))
	}
	for _, p := range all() {
		f(p)
	}
}

func TestP18_1AndP18_5AgainstPlainTexts(t *testing.T) {
	t.Parallel()
	found := map[string]int{}
	programs(t, func(p api.Program) {
		from := text(p)
		if loops, many := norm.Loops(p), strings.Count(from, "(loop "); loops != many {
			t.Errorf("%s: %d loops, not %d", from, loops, many)
		}
		if size, many := norm.Size(p), proof.Forms(proof.Brackets(from)); size != many {
			t.Errorf("%s: %d forms, not %d", from, size, many)
		}
		isNormal := !strings.Contains(from, "(loop ") && !strings.Contains(from, "(bfs ") && !strings.Contains(from, "(pull ")
		if norm.Is(p) != isNormal {
			t.Errorf("%s: %v", from, !isNormal)
		}
		if isNormal {
			found["Is"]++
		}
		q, wrong := wantNormal(t, p)
		switch {
		case wrong != api.OK:
			found["too much"]++
		case text(q) != from:
			found["Normal"]++
		}
		q, wrong = wantSimple(t, p)
		switch {
		case wrong != api.OK:
			found["unfit"]++
		case text(q) != from:
			found["Simple"]++
		}
	})
	if found["Is"] < 500 || found["Normal"] < 1000 || found["too much"] < 10 || found["Simple"] < 500 || found["unfit"] < 1000 {
		t.Error("too few programs:", found)
	}
}
