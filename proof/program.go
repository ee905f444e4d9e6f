package proof

import (
	"fmt"
	"slices"
	"strings"

	"reticule/api"
)

// Program is a program anew, with things in the spare room behind the ends of its lists.
func Program(p api.Program) api.Program {
	exprs := Roomy(p.Exprs, api.Expr{Name: "spare"})
	for i := range exprs {
		exprs[i].Kids = Roomy(exprs[i].Kids, 77)
	}
	stmts := Roomy(p.Stmts, api.Stmt{Name: "spare"})
	for i := range stmts {
		s := &stmts[i]
		s.Acts, s.Then, s.Else = Roomy(s.Acts, api.Act{Name: "spare"}), Roomy(s.Then, 77), Roomy(s.Else, 77)
	}
	return api.Program{Decls: Roomy(p.Decls, api.Decl{Name: "spare"}), Exprs: exprs, Stmts: stmts, Main: Roomy(p.Main, 77)}
}

// Whole tells all of a program, what stands in the spare room behind the ends of its lists, too.
func Whole(p api.Program) string {
	text := fmt.Sprint(p.Decls[:cap(p.Decls)], p.Main[:cap(p.Main)])
	for _, e := range p.Exprs[:cap(p.Exprs)] {
		text += fmt.Sprint(e, e.Kids[:cap(e.Kids)])
	}
	for _, s := range p.Stmts[:cap(p.Stmts)] {
		text += fmt.Sprint(s, s.Acts[:cap(s.Acts)], s.Then[:cap(s.Then)], s.Else[:cap(s.Else)])
	}
	return text
}

// Sources are texts of programs: all brackets that there are, as programs are printed; not all of them fit themselves.
func Sources() []string {
	return []string{
		"",
		"(int a)\n",
		"(int a)\n(bool b)\n(nint c)\n(nbool d)\n(eint e)\n(ebool f)\n(int a)\n",
		"(set a (+ 1 2))\n",
		"(set true false)\n(set a (own true))\n",
		"(int a)\n(nint b)\n(if (< a 3) ((set a 1)) ())\n(each (push b max in (via w) (own f)))\n(bfs b 0 (set a true))\n",
		"(fold a + (own b))\n(fold a or (far b) (= (id) (farid)))\n",
		"(each (put a 1) (put b -2 true))\n(each (pull c min out (deg in)) (push d and in (deg out)))\n",
		"(if a () ())\n(if b () ((set c 1)))\n(if d ((set e 2) (if f ((set g 3)) ((set h 4)))) ((set i 5) (set j 6)))\n",
		"(while a)\n(loop b)\n(bfs c d)\n(while (not a) (set a 1) (loop (count) (bfs b a (while false (set c d)) (set e f))))\n",
		"(set a (if (and (or true b) (= 1 2)) (narrow 8 (shl 1 (shr 2 3))) (- (* 4 5) (/ 6 (% 7 8)))))\n(set b (min (max 1 2) (& 3 (| 4 (^ 5 6)))))\n",
	}
}

// Fitting are texts of programs that fit themselves, and do not clash: all kinds of statements, acts and expressions, and all operations.
func Fitting() []string {
	const head = "(int i) (int j) (bool b) (nint ni) (nint nj) (nbool nb) (eint ei) (ebool eb) "
	return []string{
		"",
		head,
		head + "(set i (+ 1 (- j (* (count) (/ 7 (% i 2))))))",
		head + "(set i (narrow 8 (shl (min i j) (shr (max 1 2) (& 3 (| 4 (^ 5 j)))))))",
		head + "(set b (if (and b (not false)) (= true (< i j)) (or (= i -1) b)))",
		head + "(fold i + (own ni)) (fold b and (own nb) (< (id) (deg in))) (fold j min (if b i (own nj)) (= (own nb) b))",
		head + "(each (put ni (deg out)) (put nb b (own nb)) (push nj max in (+ (via ei) (own ni)) (not (own nb))))",
		head + "(each (pull ni + out (* (far nj) (via ei))) (pull nb or in (and (far nb) (via eb))) (push ni + in (via ei)))",
		head + "(each (pull ni min out (if (via eb) (farid) i)))",
		head + "(if b ((set i 1)) ((while (< i 3) (set i (+ i 1))) (loop false (set b b))))",
		head + "(bfs ni (+ i 1) (each (push nb or out (= (own ni) (id)) (own nb))) (bfs nj 0))",
	}
}

// Changed does f with all texts that come of one by a bracket or word that is missing, or by a piece ahead of it, or in its place.
func Changed(text string, pieces []string, f func(string)) {
	words := strings.Fields(strings.NewReplacer("(", " ( ", ")", " ) ").Replace(text))
	for i := range words {
		f(strings.Join(slices.Delete(slices.Clone(words), i, i+1), " "))
		for _, piece := range pieces {
			f(strings.Join(slices.Replace(slices.Clone(words), i, i+1, piece), " "))
			f(strings.Join(slices.Insert(slices.Clone(words), i, piece), " "))
		}
	}
}
