package scope

import (
	"cmp"
	"fmt"
	"slices"
	"strings"
	"testing"

	"reticule/api"
	"reticule/prog"
	"reticule/proof"
)

// naming is where a program's forms name a key, and whether its column is changed there.
type naming struct {
	key     api.Key
	changes bool
}

// plainNamings are found in a program's forms, by brackets' words: what the calls are held against.
func plainNamings(p api.Program) []naming {
	l, _, _ := prog.Write(p)
	var all []naming
	for _, form := range l {
		for i, kid := range form.Kids {
			if i == 0 || l[kid].Kind != api.Name {
				continue
			}
			word, name := l[form.Kids[0]].Text, l[kid].Text
			switch {
			case i == 1 && (word == "set" || word == "fold"):
				all = append(all, naming{api.Key{Name: name, Side: api.Scalar}, true})
			case i == 1 && slices.Contains([]string{"put", "push", "pull", "bfs"}, word):
				all = append(all, naming{api.Key{Name: name, Side: api.OfNode}, true})
			case word == "own" || word == "far":
				all = append(all, naming{api.Key{Name: name, Side: api.OfNode}, false})
			case word == "via":
				all = append(all, naming{api.Key{Name: name, Side: api.OfEdge}, false})
			case isExpression(word, i) && name != "true" && name != "false":
				all = append(all, naming{api.Key{Name: name, Side: api.Scalar}, false})
			}
		}
	}
	return all
}

// isExpression tells whether the kid i of a bracket is one.
func isExpression(word string, i int) bool {
	switch word {
	case "int", "bool", "nint", "nbool", "eint", "ebool", "deg":
		return false
	case "fold":
		return i >= 3
	case "push", "pull":
		return i >= 4
	}
	return true
}

func plainKeys(p api.Program, changing bool) []api.Key {
	var l []api.Key
	for _, n := range plainNamings(p) {
		if (n.changes || !changing) && !slices.Contains(l, n.key) {
			l = append(l, n.key)
		}
	}
	slices.SortFunc(l, func(a, b api.Key) int {
		if a.Side != b.Side {
			return cmp.Compare(a.Side, b.Side)
		}
		return strings.Compare(a.Name, b.Name)
	})
	return l
}

func declaredIn(p api.Program, k api.Key) bool {
	return slices.ContainsFunc(p.Decls, func(d api.Decl) bool { return d.Name == k.Name && d.Side == k.Side })
}

// programs does f with many programs.
func programs(t *testing.T, f func(api.Program)) {
	found := 0
	for _, text := range proof.Sources() {
		f(source(t, text))
		proof.Changed(text, []string{"a", "b", "(own a)", "(via b)", "(set c 1)", "(nint a)", "(put b a)", "(bfs a 1)"}, func(text string) {
			if p, _, e := prog.Source(text); e == api.OK {
				f(p)
				found++
			}
		})
	}
	if found < 400 {
		t.Error("too few are programs:", found)
	}
}

func TestP10_2AnyProgram(t *testing.T) {
	programs(t, func(p api.Program) {
		used, written, unused := Used(p), Written(p), Unused(p)
		if !slices.Equal(used, plainKeys(p, false)) || !slices.Equal(written, plainKeys(p, true)) {
			t.Errorf("%v: %v, %v", p, used, written)
		}
		var want []api.Key
		for _, d := range p.Decls {
			if k := (api.Key{Name: d.Name, Side: d.Side}); !slices.Contains(used, k) && !slices.Contains(want, k) {
				want = append(want, k)
			}
		}
		if !slices.Equal(unused, want) {
			t.Errorf("%v: %v, not %v", p, unused, want)
		}
		at := slices.IndexFunc(used, func(k api.Key) bool { return !declaredIn(p, k) })
		missing := append(used, api.Key{})[max(at, 0)]
		if at < 0 {
			missing = api.Key{}
		}
		if k, is := Missing(p); k != missing || is != (at >= 0) {
			t.Errorf("%v: %v, %v, not %v", p, k, is, missing)
		}
	})
}

func TestP10_3WrittenAreUsed(t *testing.T) {
	programs(t, func(p api.Program) {
		used := Used(p)
		for _, k := range Written(p) {
			if !slices.Contains(used, k) {
				t.Errorf("%v: %v", p, k)
			}
		}
	})
}

func TestP10_4UsedAndUnusedHaveAllThatIsDeclared(t *testing.T) {
	programs(t, func(p api.Program) {
		all := append(Used(p), Unused(p)...)
		for i, k := range all {
			if slices.Contains(all[:i], k) {
				t.Errorf("%v: %v is there twice", p, k)
			}
		}
		for _, d := range p.Decls {
			if !slices.Contains(all, api.Key{Name: d.Name, Side: d.Side}) {
				t.Errorf("%v: %v is not there", p, d)
			}
		}
	})
}

func TestP10_5FreshNamesCanBeDeclared(t *testing.T) {
	programs(t, func(p api.Program) {
		if _, _, e := Declared(p.Decls); e != api.OK {
			return
		}
		l := slices.Clone(p.Decls)
		for i, name := range Fresh(p.Decls, 24-len(l)) {
			l = append(l, api.Decl{Name: name, Side: api.Side(i%3 + 1), Kind: api.Bool})
		}
		if got, at, e := Declared(l); len(got) != 24 || at != 0 || e != api.OK {
			t.Errorf("%v: %d, %d", l, at, e)
		}
		p.Decls = l
		if !prog.Sound(p) && len(p.Exprs) < 50 {
			t.Errorf("%v is not sound", p)
		}
	})
}

func TestP10_5AllFreshNamesCanBeDeclared(t *testing.T) {
	for _, name := range Fresh(nil, 64) {
		if _, _, e := Declared([]api.Decl{{Name: name, Side: api.OfEdge, Kind: api.Int}}); e != api.OK {
			t.Error(name, e)
		}
	}
}

func TestP10_6RenamedOfAnyProgram(t *testing.T) {
	programs(t, func(p api.Program) {
		for _, d := range p.Decls {
			k := api.Key{Name: d.Name, Side: d.Side}
			q, e := Renamed(p, k, "zz")
			if e != api.OK {
				t.Fatalf("%v, %v: %d", p, k, e)
			}
			to := api.Key{Name: "zz", Side: k.Side}
			for i, was := range plainNamings(p) {
				want := was
				if was.key == k {
					want.key = to
				}
				if plainNamings(q)[i] != want {
					t.Errorf("%v, %v: %v, not %v", p, k, plainNamings(q)[i], want)
				}
			}
			if declaredIn(q, k) || !declaredIn(q, to) {
				t.Errorf("%v, %v: %v", p, k, q.Decls)
			}
			back, e := Renamed(q, to, k.Name)
			if e != api.OK || !prog.Same(back, p) {
				t.Errorf("%v, %v: %v, %d", p, k, back, e)
			}
		}
	})
}

func TestP3WhatIsHandedInStays(t *testing.T) {
	for _, text := range append(proof.Sources(), "(int a) (nint a) (int b) (set a (own a)) (each (put a b))") {
		p := proof.Program(source(t, text))
		want := proof.Whole(p)
		declared, _, _ := Declared(p.Decls)
		used, written, unused, fresh := Used(p), Written(p), Unused(p), Fresh(p.Decls, 5)
		KindOf(p.Decls, key("s a"))
		Missing(p)
		q, _ := Renamed(p, key("s a"), "zz")
		r, _ := Renamed(p, key("n a"), "zz")
		if proof.Whole(p) != want {
			t.Errorf("%q is changed", text)
		}
		if !proof.Apart(p, declared, used, written, unused, fresh, q, r) {
			t.Errorf("%q: lists share memory", text)
		}
	}
}

func TestP6AnswersHangOnNoOrder(t *testing.T) {
	p := source(t, "(set a (+ (own a) (via a))) (set b (+ (own b) (via b))) (set c (+ (own c) (via c))) (set d (+ (own d) (via d)))")
	want := fmt.Sprint(Used(p), Written(p))
	for range 100 {
		if got := fmt.Sprint(Used(p), Written(p)); got != want {
			t.Fatal(got)
		}
	}
}

func TestP1WhateverIsHandedIn(t *testing.T) {
	if len(Used(api.Program{})) != 0 || len(Written(api.Program{})) != 0 || len(Unused(api.Program{})) != 0 {
		t.Error("an empty program has names")
	}
	if _, e := Renamed(api.Program{}, api.Key{}, ""); e != api.ErrNoent {
		t.Error(e)
	}
	round := api.Program{Exprs: []api.Expr{{Kind: api.Call, Op: api.Add, Kids: []int{0, 0}}}, Stmts: []api.Stmt{{Kind: api.SetIt, Name: "a", Cond: -1}}, Main: []int{0}}
	wantNothing(t, round)
	wantNothing(t, api.Program{Main: []int{-1}})
	for i := range 2000 {
		p := source(t, "(int a) (nint b) (set a (+ a (own b))) (each (put b (via c)))")
		p.Decls[i%2].Side, p.Decls[i%2].Kind = api.Side(i%5), api.Kind(i%4)
		p.Exprs[i%3].Kind, p.Stmts[i%2].Kind = api.ExprKind(i%13), api.StmtKind(i%11)
		p.Main[i%2] = i%7 - 2
		if !prog.Sound(p) {
			wantNothing(t, p)
		}
		Declared(p.Decls)
	}
}
