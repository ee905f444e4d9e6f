package prog

import (
	"math"
	"regexp"
	"slices"
	"strings"
	"testing"

	"reticule/api"
	"reticule/lex"
	"reticule/proof"
	"reticule/tree"
)

var nameOrNone = regexp.MustCompile("^([a-z][a-z0-9]{0,7})?$")

// namesOf are all names that stand in a program.
func namesOf(p api.Program) []string {
	var all []string
	for _, d := range p.Decls {
		all = append(all, d.Name)
	}
	for _, e := range p.Exprs {
		all = append(all, e.Name)
	}
	for _, s := range p.Stmts {
		all = append(all, s.Name)
		for _, a := range s.Acts {
			all = append(all, a.Name)
		}
	}
	return all
}

// plainSound tells whether a program is what the plain reader reads of the plain text; texts of these tests stay within the limits.
func plainSound(p api.Program) bool {
	for _, text := range namesOf(p) {
		if !nameOrNone.MatchString(text) {
			return false
		}
	}
	tokens, _, e := lex.Tokens(plainText(p))
	l, top, _, f := tree.Parse(tokens)
	m, is := plainRead(l, top)
	return e == api.OK && f == api.OK && is && dump(m.p) == dump(p)
}

func wantSound(t *testing.T, p api.Program, want bool) {
	t.Helper()
	if Sound(p) != want {
		t.Fatalf("%s: %v", dump(p), !want)
	}
	l, top, e := Write(p)
	text, f := Text(p)
	if want && (e != api.OK || f != api.OK) || !want && (e != api.ErrForm || f != api.ErrForm || len(l) != 0 || len(top) != 0 || text != "") {
		t.Fatalf("%s: %v, %v, %d, %q, %d", dump(p), l, top, e, text, f)
	}
}

func someNames() []string {
	return []string{"", "a", "true", "set", "+", "|", "1", "A", "a b", "abcdefghi"}
}

// numbersOf does f, with a number changed to each of those near 0 up to some most.
func numbersOf[N int | api.Word](n *N, most int, f func()) {
	was := *n
	for k := -2; k <= most; k++ {
		*n = N(k)
		f()
	}
	*n = was
}

// kindsOf does f, with a kind changed to each one up to some most, and to the greatest that there is.
func kindsOf[K ~uint8](kind *K, most K, f func()) {
	was := *kind
	for k := range most + 1 {
		*kind = k
		f()
	}
	*kind = 255
	f()
	*kind = was
}

func nameChanged(name *string, f func()) {
	was := *name
	for _, word := range someNames() {
		*name = word
		f()
	}
	*name = was
}

// listChanged does f, with a list from which one is missing, or in which one is twice, or two have changed places.
func listChanged[T any](list *[]T, f func()) {
	was := *list
	for i := range was {
		*list = slices.Delete(slices.Clone(was), i, i+1)
		f()
		*list = slices.Insert(slices.Clone(was), i, was[i])
		f()
		if i > 0 {
			*list = slices.Clone(was)
			(*list)[i], (*list)[i-1] = was[i-1], was[i]
			f()
		}
	}
	*list = was
}

func placesChanged(places *[]int, most int, f func()) {
	listChanged(places, f)
	for i := range *places {
		numbersOf(&(*places)[i], most, f)
	}
	was := *places
	for k := -1; k <= most; k++ {
		*places = append(slices.Clone(was), k)
		f()
	}
	*places = was
}

// programChanged does f with a program in which one thing is otherwise, for all things.
func programChanged(p api.Program, f func(api.Program)) {
	p = proof.Program(p)
	g := func() { f(p) }
	for i := range p.Decls {
		d := &p.Decls[i]
		nameChanged(&d.Name, g)
		kindsOf(&d.Side, 4, g)
		kindsOf(&d.Kind, 3, g)
	}
	for i := range p.Exprs {
		e := &p.Exprs[i]
		kindsOf(&e.Kind, 11, g)
		kindsOf(&e.Of, 3, g)
		kindsOf(&e.Op, 20, g)
		nameChanged(&e.Name, g)
		numbersOf(&e.Num, 3, g)
		placesChanged(&e.Kids, len(p.Exprs), g)
	}
	for i := range p.Stmts {
		s := &p.Stmts[i]
		kindsOf(&s.Kind, 8, g)
		kindsOf(&s.Op, 20, g)
		nameChanged(&s.Name, g)
		numbersOf(&s.E, len(p.Exprs), g)
		numbersOf(&s.Cond, len(p.Exprs), g)
		placesChanged(&s.Then, len(p.Stmts), g)
		placesChanged(&s.Else, len(p.Stmts), g)
		listChanged(&s.Acts, g)
		for j := range s.Acts {
			actChanged(&s.Acts[j], len(p.Exprs), g)
		}
		was := s.Acts
		s.Acts = append(slices.Clone(was), api.Act{Kind: api.PutIt, Name: "a", Cond: -1})
		g()
		s.Acts = was
	}
	listChanged(&p.Decls, g)
	listChanged(&p.Exprs, g)
	listChanged(&p.Stmts, g)
	placesChanged(&p.Main, len(p.Stmts), g)
}

func actChanged(a *api.Act, most int, f func()) {
	kindsOf(&a.Kind, 4, f)
	kindsOf(&a.Op, 20, f)
	nameChanged(&a.Name, f)
	numbersOf(&a.E, most, f)
	numbersOf(&a.Cond, most, f)
	a.In = !a.In
	f()
	a.In = !a.In
}

func TestP9_2SoundOfProgramsThatAreOtherwise(t *testing.T) {
	sound := 0
	for _, text := range proof.Sources() {
		p := source(t, text)
		wantSound(t, p, true)
		programChanged(p, func(q api.Program) {
			want := plainSound(q)
			wantSound(t, q, want)
			if want {
				sound++
			}
		})
	}
	if sound < 1000 {
		t.Error("too few are sound:", sound)
	}
}

func TestP9_2SoundOfProgramsThatAreTwiceOtherwise(t *testing.T) {
	for _, text := range []string{"(int a) (set a 1)", "(fold b + (own c))", "(set a (not b))", "(while 1 (set a 2))"} {
		programChanged(source(t, text), func(q api.Program) {
			programChanged(q, func(q api.Program) { wantSound(t, q, plainSound(q)) })
		})
	}
}

func TestP9_2SoundOfNothing(t *testing.T) {
	wantSound(t, api.Program{}, true)
	wantSound(t, api.Program{Decls: []api.Decl{}, Exprs: []api.Expr{}, Stmts: []api.Stmt{}, Main: []int{}}, true)
	wantSound(t, api.Program{Main: []int{0}}, false)
	wantSound(t, api.Program{Main: []int{-1}}, false)
	wantSound(t, api.Program{Exprs: exprs(lit(1))}, false)
	wantSound(t, api.Program{Stmts: []api.Stmt{loop(api.WhileIt, 0, nil)}, Exprs: exprs(lit(1))}, false)
	wantSound(t, api.Program{Stmts: []api.Stmt{{}}, Main: []int{0}}, false)
	wantSound(t, api.Program{Decls: []api.Decl{{}}}, false)
}

func TestP9_2SoundWithEmptyLists(t *testing.T) {
	p := source(t, "(set a (id))")
	p.Exprs[0].Kids, p.Stmts[0].Acts, p.Stmts[0].Then, p.Stmts[0].Else = []int{}, []api.Act{}, []int{}, []int{}
	wantSound(t, p, true)
}

func TestP1SoundOfProgramsThatNeverEnd(t *testing.T) {
	round := api.Program{Exprs: exprs(call(api.Add, 0, 0)), Stmts: []api.Stmt{set("a", 0)}, Main: []int{0}}
	wantSound(t, round, false)
	wantSound(t, api.Program{Exprs: exprs(lit(1)), Stmts: []api.Stmt{loop(api.WhileIt, 0, []int{0, 0})}, Main: []int{0}}, false)
	branch := loop(api.IfIt, 0, []int{0})
	branch.Else = []int{0}
	wantSound(t, api.Program{Exprs: exprs(lit(1)), Stmts: []api.Stmt{branch}, Main: []int{0}}, false)
	meeting := exprs(lit(1))
	for i := range 60 {
		meeting = append(meeting, call(api.Add, i, i))
	}
	wantSound(t, api.Program{Exprs: meeting, Stmts: []api.Stmt{set("a", 60)}, Main: []int{0}}, false)
	wide := api.Program{Exprs: exprs(lit(1)), Stmts: []api.Stmt{set("a", 0)}, Main: make([]int, 100000)}
	wantSound(t, wide, false)
	for _, place := range []int{math.MinInt, -1 << 40, 1 << 40, math.MaxInt} {
		wantSound(t, api.Program{Exprs: exprs(call(api.Not, place)), Stmts: []api.Stmt{set("a", 0)}, Main: []int{0}}, false)
		wantSound(t, api.Program{Exprs: exprs(lit(1)), Stmts: []api.Stmt{set("a", place)}, Main: []int{0}}, false)
		wantSound(t, api.Program{Exprs: exprs(lit(1)), Stmts: []api.Stmt{region(put("a", 0, place))}, Main: []int{0}}, false)
		wantSound(t, api.Program{Exprs: exprs(lit(1)), Stmts: []api.Stmt{set("a", 0)}, Main: []int{0, place}}, false)
	}
}

func TestE4SoundWithinLimits(t *testing.T) {
	for n := range 30 {
		var p api.Program
		for range n {
			p.Decls = append(p.Decls, api.Decl{Name: "a", Side: api.Scalar, Kind: api.Int})
		}
		wantSound(t, p, n <= 24)
	}
	for n := range 9 {
		p := api.Program{Stmts: []api.Stmt{region()}, Main: []int{0}}
		for i := range n {
			p.Exprs = append(p.Exprs, lit(0))
			p.Stmts[0].Acts = append(p.Stmts[0].Acts, put("a", i, -1))
		}
		wantSound(t, p, 1 <= n && n <= 6)
	}
	for n := 1; n <= 20; n++ { // brackets within brackets: calls in a statement, loops in loops, branches in branches
		p := api.Program{Exprs: exprs(lit(0)), Main: []int{0}}
		for i := range n {
			p.Exprs = append(p.Exprs, call(api.Not, i))
		}
		p.Stmts = []api.Stmt{set("a", n)}
		wantSound(t, p, n <= 11)
		var q api.Program
		for i := range n {
			q.Exprs = append(q.Exprs, lit(api.Word(i)))
			q.Stmts = append(q.Stmts, loop(api.LoopIt, n-1-i, []int{i - 1}))
		}
		q.Stmts[0].Then, q.Main = nil, []int{n - 1}
		wantSound(t, q, n <= 12)
		for i := range q.Stmts {
			q.Stmts[i].Kind = api.IfIt
			q.Stmts[i].Then, q.Stmts[i].Else = q.Stmts[i].Else, q.Stmts[i].Then
		}
		wantSound(t, q, n <= 6) // two brackets each: of the innermost, too
	}
}

func TestE4SoundHasMaxForms(t *testing.T) {
	// A declaration is 3 forms, (set a 0) is 4, (while 0) is 3, (set a (+ 0 0)) is 7.
	for decls := range 3 {
		for whiles := range 3 {
			for sets := 95; sets <= 101; sets++ {
				p := api.Program{Decls: slices.Repeat([]api.Decl{{Name: "a", Side: api.OfEdge, Kind: api.Bool}}, decls)}
				for i := range sets + whiles {
					s := loop(api.WhileIt, i, nil)
					if i < sets {
						s = set("a", i)
					}
					p.Exprs, p.Stmts, p.Main = append(p.Exprs, lit(0)), append(p.Stmts, s), append(p.Main, i)
				}
				wantSound(t, p, 3*decls+3*whiles+4*sets <= 400)
			}
		}
	}
	for n := range 20 {
		text := strings.Repeat("(set a (+ 0 0))", 50) + strings.Repeat("(loop 1)", n)
		if p, _, e := Source(text); e == api.OK {
			wantSound(t, p, true)
		} else if n <= 16 {
			t.Error(n, e)
		}
	}
}

func TestP9_2Same(t *testing.T) {
	for _, text := range proof.Sources() {
		p := source(t, text)
		if !Same(p, p) || !Same(p, proof.Program(p)) || !Same(proof.Program(p), p) {
			t.Error(text)
		}
		programChanged(p, func(q api.Program) {
			if want := dump(p) == dump(q); Same(p, q) != want || Same(q, p) != want {
				t.Errorf("%s, %s: not %v", dump(p), dump(q), want)
			}
		})
	}
	var all []api.Program
	for _, text := range proof.Sources() {
		all = append(all, source(t, text))
	}
	for i := range all {
		for j := range all {
			if Same(all[i], all[j]) != (i == j) {
				t.Error(i, j)
			}
		}
	}
	if !Same(api.Program{}, api.Program{Decls: []api.Decl{}, Exprs: []api.Expr{}, Stmts: []api.Stmt{}, Main: []int{}}) {
		t.Error("empty lists are not as nil ones")
	}
	if !Same(api.Program{Exprs: []api.Expr{{Kids: []int{}}}, Stmts: []api.Stmt{{Acts: []api.Act{}, Then: []int{}, Else: []int{}}}}, api.Program{Exprs: []api.Expr{{}}, Stmts: []api.Stmt{{}}}) {
		t.Error("empty lists are not as nil ones")
	}
	unsound := api.Program{Main: []int{7}}
	if !Same(unsound, unsound) {
		t.Error("a program that is not sound is not the same as itself")
	}
}
