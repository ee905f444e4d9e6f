package scope

import (
	"fmt"
	"math"
	"slices"
	"strings"
	"testing"

	"reticule/api"
	"reticule/prog"
)

// The calls have the signatures that the chapter lists.
var (
	_ func([]api.Decl) ([]api.Key, int, api.Errno)                       = Declared
	_ func(l []api.Decl, k api.Key) api.Kind                             = KindOf
	_ func(api.Program) []api.Key                                        = Used
	_ func(api.Program) []api.Key                                        = Written
	_ func(api.Program) []api.Key                                        = Unused
	_ func(api.Program) (api.Key, bool)                                  = Missing
	_ func(l []api.Decl, many int) []string                              = Fresh
	_ func(p api.Program, k api.Key, to string) (api.Program, api.Errno) = Renamed
)

func source(t *testing.T, text string) api.Program {
	t.Helper()
	p, at, e := prog.Source(text)
	if at != 0 || e != api.OK {
		t.Fatalf("%q is no program: %d, %d", text, at, e)
	}
	return p
}

// keys are such as "s a" (of the Scalar side), "n a" (OfNode), "e a" (OfEdge), with commas between.
func keys(text string) []api.Key {
	var l []api.Key
	for _, piece := range strings.FieldsFunc(text, func(r rune) bool { return r == ',' }) {
		side, name, _ := strings.Cut(strings.TrimSpace(piece), " ")
		l = append(l, api.Key{Name: name, Side: map[string]api.Side{"s": api.Scalar, "n": api.OfNode, "e": api.OfEdge}[side]})
	}
	return l
}

func key(text string) api.Key { return keys(text)[0] }

func decl(name string, side api.Side, kind api.Kind) api.Decl {
	return api.Decl{Name: name, Side: side, Kind: kind}
}

func TestP10_1Declared(t *testing.T) {
	for text, want := range map[string]string{
		"": "", "(int a)": "s a", "(nint a) (int a)": "n a, s a", "(ebool z) (nbool true) (bool b1) (eint b1) (nint b1)": "e z, n true, s b1, e b1, n b1",
	} {
		if got, at, e := Declared(source(t, text).Decls); !slices.Equal(got, keys(want)) || at != 0 || e != api.OK {
			t.Errorf("%q: %v, %d, %d", text, got, at, e)
		}
	}
	if got, at, e := Declared(nil); len(got) != 0 || at != 0 || e != api.OK {
		t.Error(got, at, e)
	}
}

func wantNoKeys(t *testing.T, l []api.Decl, at int, e api.Errno) {
	t.Helper()
	if got, gotAt, gotE := Declared(l); len(got) != 0 || gotAt != at || gotE != e {
		t.Errorf("%v: %v, %d, %d, not %d, %d", l, got, gotAt, gotE, at, e)
	}
}

func wrongDecls() []api.Decl {
	l := []api.Decl{
		{}, decl("a", api.NoSide, api.Int), decl("a", 4, api.Int), decl("a", 255, api.Bool), decl("a", api.Scalar, api.NoKind), decl("a", api.OfNode, 3), decl("a", api.OfEdge, 255),
	}
	for _, name := range append(strings.Fields("+ - * / % & | ^ = < 1 -1 0 1a A aB a_b abcdefghi ( ) ; { ` é"), "", " ", "a ", " a", "a b", "a\n", "\x00", "\xff", "a\xff", "aé") {
		l = append(l, decl(name, api.Scalar, api.Int), decl(name, api.OfEdge, api.Bool))
	}
	return l
}

func TestP10_1DeclaredErrForm(t *testing.T) {
	good := source(t, "(int a) (nint a) (bool b)").Decls
	for _, wrong := range wrongDecls() {
		for at := range 4 {
			wantNoKeys(t, slices.Insert(slices.Clone(good), at, wrong), at, api.ErrForm)
		}
	}
	for _, name := range []string{"a", "z", "true", "int", "q0", "abcdefgh", "z9999999"} {
		if _, _, e := Declared([]api.Decl{decl(name, api.OfEdge, api.Bool)}); e != api.OK {
			t.Error(name, e)
		}
	}
}

func TestP10_1DeclaredErrExist(t *testing.T) {
	for text, at := range map[string]int{"(int a) (int a)": 1, "(int a) (bool a)": 1, "(int a) (nint b) (eint a) (nbool b) (int a)": 3, "(ebool c) (int c) (nint c) (eint c)": 3} {
		wantNoKeys(t, source(t, text).Decls, at, api.ErrExist)
	}
	// Each declaration's errors come ahead of those behind it, and of one ErrForm ahead of ErrExist.
	a := decl("a", api.Scalar, api.Int)
	wantNoKeys(t, []api.Decl{a, a, {}}, 1, api.ErrExist)
	wantNoKeys(t, []api.Decl{a, {}, a}, 1, api.ErrForm)
	wantNoKeys(t, []api.Decl{a, decl("a", api.Scalar, api.NoKind)}, 1, api.ErrForm)
}

func many(n int) []api.Decl {
	var l []api.Decl
	for i := range n {
		l = append(l, decl(fmt.Sprintf("n%d", i), api.Side(i%3+1), api.Kind(i%2+1)))
	}
	return l
}

func TestP10_1DeclaredMaxNames(t *testing.T) {
	for _, n := range []int{1, 23, 24} {
		if got, at, e := Declared(many(n)); len(got) != n || at != 0 || e != api.OK {
			t.Error(n, got, at, e)
		}
	}
	for _, n := range []int{25, 26, 100} {
		wantNoKeys(t, many(n), 24, api.ErrSpace)
		l := many(n)
		l[24] = api.Decl{}
		wantNoKeys(t, l, 24, api.ErrSpace) // of the one behind MaxNames whatever it is
		l[24] = l[3]
		wantNoKeys(t, l, 24, api.ErrSpace)
		l[23] = l[3]
		wantNoKeys(t, l, 23, api.ErrExist)
		l[23] = api.Decl{}
		wantNoKeys(t, l, 23, api.ErrForm)
		l[0].Kind = 9
		wantNoKeys(t, l, 0, api.ErrForm)
	}
}

func TestP10_1KindOf(t *testing.T) {
	l := source(t, "(int a) (nbool a) (bool b) (int b) (ebool c)").Decls
	for k, want := range map[string]api.Kind{"s a": api.Int, "n a": api.Bool, "s b": api.Bool, "e c": api.Bool, "e a": api.NoKind, "n b": api.NoKind, "s c": api.NoKind, "s d": api.NoKind} {
		if got := KindOf(l, key(k)); got != want {
			t.Errorf("%s: %d, not %d", k, got, want)
		}
	}
	for _, k := range []api.Key{{}, {Name: "a"}, {Name: "a", Side: 4}, {Side: api.Scalar}, {Name: "A", Side: api.Scalar}} {
		if KindOf(l, k) != api.NoKind || KindOf(nil, k) != api.NoKind {
			t.Error(k)
		}
	}
	odd := []api.Decl{decl("", 9, 7), decl("a", api.Scalar, api.NoKind), decl("a", api.Scalar, api.Int)}
	if KindOf(odd, api.Key{Side: 9}) != 7 || KindOf(odd, key("s a")) != api.NoKind {
		t.Error("it is the first declaration's kind, whatever that is")
	}
}

func TestP10_2Names(t *testing.T) {
	for _, c := range []struct{ text, used, written, unused, missing string }{
		{"", "", "", "", ""},
		{"(int a)", "", "", "s a", ""},
		{"(set a 1)", "s a", "s a", "", "s a"},
		{"(int a) (set a 1)", "s a", "s a", "", ""},
		{"(nint a) (int a) (set a 1)", "s a", "s a", "n a", ""},
		{"(nint a) (set a 1)", "s a", "s a", "n a", "s a"},
		{"(set a b)", "s a, s b", "s a", "", "s a"},
		{"(int a) (set a b)", "s a, s b", "s a", "", "s b"},
		{"(set a (own a)) (set b (far c)) (set b (via a))", "s a, s b, n a, n c, e a", "s a, s b", "", "s a"},
		{"(int a) (int b) (nint a) (set a (own a)) (set b (far c)) (set b (via a))", "s a, s b, n a, n c, e a", "s a, s b", "", "n c"},
		{"(int a) (int b) (nint a) (nint c) (set a (own a)) (set b (far c)) (set b (via a))", "s a, s b, n a, n c, e a", "s a, s b", "", "e a"},
		{"(fold f + (own g) h)", "s f, s h, n g", "s f", "", "s f"},
		{"(each (put a 1) (put b c (own d)) (push e + out (via f) g) (pull h + in (far i)))", "s c, s g, n a, n b, n d, n e, n h, n i, e f", "n a, n b, n e, n h", "", "s c"},
		{"(bfs a b (set c d))", "s b, s c, s d, n a", "s c, n a", "", "s b"},
		{"(if a ((set b 1)) ((set c 2)))  (while d (set e 3)) (loop f (set g 4))", "s a, s b, s c, s d, s e, s f, s g", "s b, s c, s e, s g", "", "s a"},
		{"(set z (+ (own b) (own a))) (set y x)", "s x, s y, s z, n a, n b", "s y, s z", "", "s x"},
		{"(set a9 b) (set a b) (set a10 1) (set aa 2) (set a 3)", "s a, s a10, s a9, s aa, s b", "s a, s a10, s a9, s aa", "", "s a"},
		{"(int c) (nint b) (int a) (int c) (ebool b) (bool a) (nint b)", "", "", "s c, n b, s a, e b", ""},
		{"(int c) (nint b) (int a) (int c) (ebool b) (bool a) (nint b) (set c (via b))", "s c, e b", "s c", "n b, s a", ""},
		{"(set a (id)) (set a (farid)) (set a (count)) (set a (deg in)) (set a true) (set a 5)", "s a", "s a", "", "s a"},
		{"(set true false) (each (put if (own set)))", "s true, n if, n set", "s true, n if", "", "s true"},
	} {
		p := source(t, c.text)
		for what, got := range map[string][]api.Key{c.used + ";used": Used(p), c.written + ";written": Written(p), c.unused + ";unused": Unused(p)} {
			if text, _, _ := strings.Cut(what, ";"); !slices.Equal(got, keys(text)) {
				t.Errorf("%q: %s: %v", c.text, what, got)
			}
		}
		want := append(keys(c.missing), api.Key{})[0]
		if k, is := Missing(p); k != want || is != (c.missing != "") {
			t.Errorf("%q: %v, %v is missing", c.text, k, is)
		}
	}
}

func wantNothing(t *testing.T, p api.Program) {
	t.Helper()
	k, is := Missing(p)
	if len(Used(p)) != 0 || len(Written(p)) != 0 || len(Unused(p)) != 0 || k != (api.Key{}) || is {
		t.Errorf("%v: %v, %v, %v, %v", p, Used(p), Written(p), Unused(p), k)
	}
	if q, e := Renamed(p, key("s a"), "b"); e != api.ErrForm || !prog.Same(q, api.Program{}) {
		t.Errorf("%v: %v, %d", p, q, e)
	}
}

func TestP10_2ProgramsThatAreNotSound(t *testing.T) {
	const text = "(int a) (nint b) (set a (own b)) (each (put b c))"
	for _, spoil := range []func(*api.Program){
		func(p *api.Program) { p.Exprs[0].Num = 1 },
		func(p *api.Program) { p.Exprs[0].Kind = api.NoExpr },
		func(p *api.Program) { p.Exprs[0].Name = "+" },
		func(p *api.Program) { p.Stmts[0].E = 1 },
		func(p *api.Program) { p.Stmts[0].E = -1 },
		func(p *api.Program) { p.Stmts[0].E = math.MaxInt },
		func(p *api.Program) { p.Stmts[0].Kind = 99 },
		func(p *api.Program) { p.Stmts[1].Acts = nil },
		func(p *api.Program) { p.Stmts[1].Acts[0].Kind = 99 },
		func(p *api.Program) { p.Main = nil },
		func(p *api.Program) { p.Main = []int{1, 0} },
		func(p *api.Program) { p.Main = []int{0, 1, 1} },
		func(p *api.Program) { p.Main = []int{0, 1, -1} },
		func(p *api.Program) { p.Exprs = nil },
		func(p *api.Program) { p.Stmts = nil },
		func(p *api.Program) { p.Decls[0].Side = api.NoSide },
		func(p *api.Program) { p.Decls[0].Kind = 3 },
		func(p *api.Program) { p.Decls[1].Name = "" },
		func(p *api.Program) { p.Decls = many(25) },
	} {
		p := source(t, text)
		spoil(&p)
		wantNothing(t, p)
	}
}

func TestP10_2Fresh(t *testing.T) {
	plain := func(from, to int) []string {
		var l []string
		for i := from; i < to; i++ {
			l = append(l, fmt.Sprint("q", i))
		}
		return l
	}
	for _, c := range []struct {
		l    []api.Decl
		many int
		want []string
	}{
		{nil, 0, nil}, {nil, -1, nil}, {nil, math.MinInt, nil}, {nil, 1, plain(0, 1)}, {nil, 12, plain(0, 12)}, {nil, 63, plain(0, 63)}, {nil, 64, plain(0, 64)}, {nil, 65, plain(0, 64)}, {nil, math.MaxInt, plain(0, 64)},
		{source(t, "(int q0)").Decls, 2, plain(1, 3)}, {source(t, "(nint q0)").Decls, 2, plain(1, 3)}, {source(t, "(ebool q0) (int q2) (nint q2) (int q4)").Decls, 4, []string{"q1", "q3", "q5", "q6"}},
		{source(t, "(int q) (int q00) (int q01) (int a0) (int q1x)").Decls, 3, plain(0, 3)}, {source(t, "(int q5)").Decls, 3, plain(0, 3)}, {source(t, "(int q63)").Decls, 70, append(plain(0, 63), "q64")},
		{[]api.Decl{decl("q0", 9, 9), decl("q1", api.NoSide, api.NoKind), {}}, 2, plain(2, 4)}, // of whatever declarations
	} {
		if got := Fresh(c.l, c.many); !slices.Equal(got, c.want) {
			t.Errorf("%v, %d: %v, not %v", c.l, c.many, got, c.want)
		}
	}
	var l []api.Decl
	for _, name := range plain(0, 200) {
		l = append(l, decl(name, api.OfNode, api.Int))
	}
	if got := Fresh(l, 100); !slices.Equal(got, plain(200, 264)) {
		t.Error(got)
	}
}

func wantRenamed(t *testing.T, text, k, to, want string) {
	t.Helper()
	q, e := Renamed(source(t, text), key(k), to)
	if got, f := prog.Text(q); got != want || e != api.OK || f != api.OK {
		t.Errorf("%q: %s to %q: %q, %d, not %q", text, k, to, got, e, want)
	}
}

func TestP10_6Renamed(t *testing.T) {
	const all = "(int a) (nint a) (eint a) (bool a) (set a (+ a (own a))) (fold a + (far a) (= a (via a))) (each (put a a) (push a + out (own a) (via a)) (pull a + in (far a))) (bfs a a (set a (if a a a)))"
	wantRenamed(t, all, "s a", "z", "(int z)\n(nint a)\n(eint a)\n(bool z)\n(set z (+ z (own a)))\n(fold z + (far a) (= z (via a)))\n(each (put a z) (push a + out (own a) (via a)) (pull a + in (far a)))\n(bfs a z (set z (if z z z)))\n")
	wantRenamed(t, all, "n a", "z", "(int a)\n(nint z)\n(eint a)\n(bool a)\n(set a (+ a (own z)))\n(fold a + (far z) (= a (via a)))\n(each (put z a) (push z + out (own z) (via a)) (pull z + in (far z)))\n(bfs z a (set a (if a a a)))\n")
	wantRenamed(t, all, "e a", "z", "(int a)\n(nint a)\n(eint z)\n(bool a)\n(set a (+ a (own a)))\n(fold a + (far a) (= a (via z)))\n(each (put a a) (push a + out (own a) (via z)) (pull a + in (far a)))\n(bfs a a (set a (if a a a)))\n")
	wantRenamed(t, "(int a)", "s a", "b", "(int b)\n")
	wantRenamed(t, "(int a) (nint b) (set a 1)", "s a", "b", "(int b)\n(nint b)\n(set b 1)\n")                   // declared on another side
	wantRenamed(t, "(int a) (set a c)", "s a", "c", "(int c)\n(set c c)\n")                                      // named, and not declared
	wantRenamed(t, "(nint a) (each (put a (own b)))", "n a", "true", "(nint true)\n(each (put true (own b)))\n") // true is a name where no expression stands
	wantRenamed(t, "(int a) (set a 1)", "s a", "false", "(int false)\n(set false 1)\n")
	wantRenamed(t, "(int a) (set a b)", "s a", "abcdefgh", "(int abcdefgh)\n(set abcdefgh b)\n")
}

func TestP10_6RenamedErrors(t *testing.T) {
	const text = "(int a) (int b) (nint a) (nint c) (set a (+ a d))"
	long := strings.Repeat("a", 1<<20)
	for _, c := range []struct {
		k    api.Key
		to   string
		want api.Errno
	}{
		{key("s c"), "z", api.ErrNoent}, {key("e a"), "z", api.ErrNoent}, {key("s d"), "z", api.ErrNoent}, {key("n b"), "z", api.ErrNoent}, {key("n d"), "+", api.ErrNoent}, {api.Key{}, "z", api.ErrNoent}, {api.Key{Name: "a"}, "z", api.ErrNoent}, {api.Key{Name: "a", Side: 4}, "z", api.ErrNoent}, {api.Key{Side: api.Scalar}, "z", api.ErrNoent}, {key("s c"), "a", api.ErrNoent}, {key("s d"), "d", api.ErrNoent},
		{key("s a"), "a", api.ErrExist}, {key("s a"), "b", api.ErrExist}, {key("s b"), "a", api.ErrExist}, {key("n a"), "c", api.ErrExist}, {key("n c"), "c", api.ErrExist},
		{key("s a"), "", api.ErrForm}, {key("s a"), "+", api.ErrForm}, {key("s a"), "|", api.ErrForm}, {key("s a"), "1", api.ErrForm}, {key("s a"), "A", api.ErrForm}, {key("s a"), "a b", api.ErrForm}, {key("s b"), "abcdefghi", api.ErrForm}, {key("n c"), "\xff", api.ErrForm}, {key("n c"), "(c)", api.ErrForm}, {key("s a"), long, api.ErrForm},
		{key("s a"), "true", api.ErrForm}, {key("s a"), "false", api.ErrForm}, // as an expression it is no name
	} {
		if q, e := Renamed(source(t, text), c.k, c.to); e != c.want || !prog.Same(q, api.Program{}) {
			t.Errorf("%v to %.20q: %d, %v, not %d", c.k, c.to, e, q, c.want)
		}
	}
}
