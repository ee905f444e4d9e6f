package proof

import (
	"fmt"
	"slices"
	"strings"

	"reticule/api"
)

// Program is a program anew, with things in the spare room behind the ends of its lists.
func Program(p api.Program) api.Program {
	exprs := Roomy(p.Exprs, api.Expr{Name: "spare"})
	for i := range exprs {
		exprs[i].Kids = Roomy(exprs[i].Kids, 77)
	}
	stmts := Roomy(p.Stmts, api.Stmt{Name: "spare"})
	for i := range stmts {
		s := &stmts[i]
		s.Acts, s.Then, s.Else = Roomy(s.Acts, api.Act{Name: "spare"}), Roomy(s.Then, 77), Roomy(s.Else, 77)
	}
	return api.Program{Decls: Roomy(p.Decls, api.Decl{Name: "spare"}), Exprs: exprs, Stmts: stmts, Main: Roomy(p.Main, 77)}
}

// Whole tells all of a program, what stands in the spare room behind the ends of its lists, too.
func Whole(p api.Program) string {
	text := fmt.Sprint(p.Decls[:cap(p.Decls)], p.Main[:cap(p.Main)])
	for _, e := range p.Exprs[:cap(p.Exprs)] {
		text += fmt.Sprint(e, e.Kids[:cap(e.Kids)])
	}
	for _, s := range p.Stmts[:cap(p.Stmts)] {
		text += fmt.Sprint(s, s.Acts[:cap(s.Acts)], s.Then[:cap(s.Then)], s.Else[:cap(s.Else)])
	}
	return text
}

// Sources are texts of programs: all brackets that there are, as programs are printed; not all of them fit themselves.
func Sources() []string {
	return []string{
		"",
		"(int a)\n",
		"(int a)\n(bool b)\n(nint c)\n(nbool d)\n(eint e)\n(ebool f)\n(int a)\n",
		"(set a (+ 1 2))\n",
		"(set true false)\n(set a (own true))\n",
		"(int a)\n(nint b)\n(if (< a 3) ((set a 1)) ())\n(each (push b max in (via w) (own f)))\n(bfs b 0 (set a true))\n",
		"(fold a + (own b))\n(fold a or (far b) (= (id) (farid)))\n",
		"(each (put a 1) (put b -2 true))\n(each (pull c min out (deg in)) (push d and in (deg out)))\n",
		"(if a () ())\n(if b () ((set c 1)))\n(if d ((set e 2) (if f ((set g 3)) ((set h 4)))) ((set i 5) (set j 6)))\n",
		"(while a)\n(loop b)\n(bfs c d)\n(while (not a) (set a 1) (loop (count) (bfs b a (while false (set c d)) (set e f))))\n",
		"(set a (if (and (or true b) (= 1 2)) (narrow 8 (shl 1 (shr 2 3))) (- (* 4 5) (/ 6 (% 7 8)))))\n(set b (min (max 1 2) (& 3 (| 4 (^ 5 6)))))\n",
	}
}

// Head is what Fitting declare, but for the empty one: a column of each side and kind, and some more.
const Head = "(int i) (int j) (bool b) (nint ni) (nint nj) (nbool nb) (eint ei) (ebool eb) "

// Fitting are texts of programs that fit themselves, and do not clash: all kinds of statements, acts and expressions, and all operations.
func Fitting() []string {
	return []string{
		"",
		Head,
		Head + "(set i (+ 1 (- j (* (count) (/ 7 (% i 2))))))",
		Head + "(set i (narrow 8 (shl (min i j) (shr (max 1 2) (& 3 (| 4 (^ 5 j)))))))",
		Head + "(set b (if (and b (not false)) (= true (< i j)) (or (= i -1) b)))",
		Head + "(fold i + (own ni)) (fold b and (own nb) (< (id) (deg in))) (fold j min (if b i (own nj)) (= (own nb) b))",
		Head + "(each (put ni (deg out)) (put nb b (own nb)) (push nj max in (+ (via ei) (own ni)) (not (own nb))))",
		Head + "(each (pull ni + out (* (far nj) (via ei))) (pull nb or in (and (far nb) (via eb))) (push ni + in (via ei)))",
		Head + "(each (pull ni min out (if (via eb) (farid) i)))",
		Head + "(if b ((set i 1)) ((while (< i 3) (set i (+ i 1))) (loop false (set b b))))",
		Head + "(bfs ni (+ i 1) (each (push nb or out (= (own ni) (id)) (own nb))) (bfs nj 0))",
	}
}

// Running are Fitting, and more texts of such programs: some run on, with other statements in their loops and levels.
func Running() []string {
	return append(Fitting(),
		Head+"(while (< i 3) (set i (+ (max i 0) 1)) (each (push ni + out (* i (own nj)) (own nb)) (put nj (+ (own nj) (deg in)))))",
		Head+"(loop (and b (< j 9)) (fold j + (own ni) (< (own ni) 4)) (set j (max j 7)) (each (pull nb or out (far nb)) (put ni (if (own nb) (id) j))) (fold b and (own nb)))",
		Head+"(bfs ni (& i 3) (fold j + 1 (= (own ni) 2)) (if (< j 2) ((each (put nj (own ni)))) ((each (push nj min in (via ei) (own nb))))))",
		Head+"(bfs ni 1 (each (put ni -1 (and (own nb) (< 1 (own ni))))) (bfs nj 0 (set i (+ i 1))))",
		Head+"(bfs ni 0 (bfs ni (- (count) 1)) (each (put ni 5 (= (own ni) 1))))",
		Head+"(set i 2) (while (not (= i 0)) (set i (- i 1)) (loop b (fold b and (own nb)) (set b false)))",
		Head+"(loop (< i 2) (each (pull ni max in (+ (far nj) (farid))) (push nj max in (own ni) (not (own nb)))) (fold i max (own ni)) (set i (if (< i 0) 3 (min i 100))))",
		Head+"(if (< i j) ((bfs nj i)) ((bfs nj j (each (put nb (= (own nj) 0)))))) (fold j max (own nj)) (while (< 0 j) (set j (- (min j 3) 1)) (each (push ni + out 1 (= (own nj) j))))",
	)
}

// Changed does f with all texts that come of one by a bracket or word that is missing, or by a piece ahead of it, or in its place.
func Changed(text string, pieces []string, f func(string)) {
	words := strings.Fields(strings.NewReplacer("(", " ( ", ")", " ) ").Replace(text))
	for i := range words {
		f(strings.Join(slices.Delete(slices.Clone(words), i, i+1), " "))
		for _, piece := range pieces {
			f(strings.Join(slices.Replace(slices.Clone(words), i, i+1, piece), " "))
			f(strings.Join(slices.Insert(slices.Clone(words), i, piece), " "))
		}
	}
}
