package prog

import (
	"strings"
	"testing"

	"reticule/api"
	"reticule/lex"
	"reticule/proof"
	"reticule/show"
	"reticule/tree"
)

func pieces() []string {
	return []string{"(", ")", "()", "a", "1", "true", "+", "out", "in", "set", "each", "put", "if", "int", "own", "(own a)", "(put a 1)", "(set a 1)"}
}

// sourceIsPlain holds Source of a text against the plain reader.
func sourceIsPlain(t *testing.T, text string) {
	t.Helper()
	p, at, e := Source(text)
	tokens, wantAt, wantE := lex.Tokens(text)
	l, top := []api.Form{}, []int{}
	if wantE == api.OK {
		l, top, wantAt, wantE = tree.Parse(tokens)
	}
	want := api.Program{}
	if wantE == api.OK {
		m, is := plainRead(l, top)
		if is {
			want = m.p
		} else {
			wantAt, wantE = m.wrong, api.ErrSyntax
		}
	}
	if dump(p) != dump(want) || at != wantAt || e != wantE {
		t.Errorf("%q: %d, %d, %s, not %d, %d, %s", text, at, e, dump(p), wantAt, wantE, dump(want))
	}
	if e == api.OK {
		textComesBack(t, p)
	}
}

// textComesBack tries P9.2, P9.3 and P9.4 on a program that was read.
func textComesBack(t *testing.T, p api.Program) {
	t.Helper()
	text, e := Text(p)
	if !Sound(p) || e != api.OK || text != plainText(p) {
		t.Fatalf("%q, %d, not %q", text, e, plainText(p))
	}
	l, top, e := Write(p)
	if e != api.OK {
		t.Fatalf("%q: %d", text, e)
	}
	if q, at, e := Read(l, top); dump(q) != dump(p) || at != 0 || e != api.OK {
		t.Errorf("%q: %s, %d, %d", text, dump(q), at, e)
	}
	q, at, e := Source(text)
	if dump(q) != dump(p) || at != 0 || e != api.OK {
		t.Errorf("%q: %s, %d, %d", text, dump(q), at, e)
	}
	if again, e := Text(q); again != text || e != api.OK {
		t.Errorf("%q, not %q", again, text)
	}
}

func TestP9_1AnyText(t *testing.T) {
	for _, text := range proof.Sources() {
		sourceIsPlain(t, text)
		proof.Changed(text, pieces(), func(text string) { sourceIsPlain(t, text) })
	}
}

func TestP9_1TextsTwiceChanged(t *testing.T) {
	few := []string{"(", ")", "a", "1", "+"}
	for _, text := range []string{"(int a) (set a 1)", "(each (push a + in 1 2))", "(if 1 () ())", "(set a (deg in))"} {
		proof.Changed(text, few, func(text string) {
			proof.Changed(text, few, func(text string) { sourceIsPlain(t, text) })
		})
	}
}

func TestP9_1ShortTexts(t *testing.T) {
	proof.Rows(5, []string{"(", ")", "a", "1", "+", "set", "if", "not", "while"}, func(row []string) {
		sourceIsPlain(t, strings.Join(row, " "))
	})
}

func TestP9_2Source(t *testing.T) {
	for _, c := range []struct {
		text string
		at   int
		e    api.Errno
	}{
		{strings.Repeat(" ", 3001), 0, api.ErrSpace}, {strings.Repeat(" ", 3000), 0, api.OK}, {"(int a) A", 8, api.ErrSyntax}, {"(set) A", 6, api.ErrSyntax}, {") (set)", 0, api.ErrSyntax}, {"(set) )", 6, api.ErrSyntax}, {"(set) (int", 6, api.ErrSyntax}, {"(set)  (while (not a", 14, api.ErrSyntax},
		{"(set) " + strings.Repeat("(", 13), 18, api.ErrSpace}, {"(set) " + strings.Repeat("()", 300), 603, api.ErrSpace}, {"(set) " + strings.Repeat("a ", 399), 6 + 2*398, api.ErrSpace}, {"(set) " + strings.Repeat("a ", 398), 0, api.ErrSyntax}, {"\xff", 0, api.ErrSyntax}, {"(int é)", 5, api.ErrSyntax}, {"(int abcdefghi)", 5, api.ErrSyntax}, {"(set a 9223372036854775808)", 7, api.ErrSyntax}, {"(set a -0)", 7, api.ErrSyntax},
	} {
		if p, at, e := Source(c.text); at != c.at || e != c.e || dump(p) != dump(api.Program{}) {
			t.Errorf("%.40q: %d, %d, not %d, %d", c.text, at, e, c.at, c.e)
		}
	}
	want := source(t, "(int a) (set a (+ 1 2))")
	for _, text := range []string{"(int a)(set a(+ 1 2))", " ( int\ta ) ; ( b\n(set\n\na (+ ;\n 1 2 ) )\n"} {
		if p := source(t, text); dump(p) != dump(want) {
			t.Errorf("%q: %s", text, dump(p))
		}
	}
}

func TestP9_2WriteIsWhatTheTextHas(t *testing.T) {
	for _, text := range proof.Sources() {
		p := source(t, text)
		l, top, e := Write(p)
		want, wantTop := formsOf(t, text)
		if e != api.OK || !show.Same(l, top, want, wantTop) {
			t.Errorf("%q: %v, %v, %d", text, l, top, e)
		}
		for i, form := range l {
			if form.At != 0 {
				t.Errorf("%q: the form %d is at %d", text, i, form.At)
			}
		}
	}
}

func TestP9_2Text(t *testing.T) {
	for _, text := range proof.Sources() {
		if got, e := Text(source(t, text)); got != text || e != api.OK {
			t.Errorf("%q, %d, not %q", got, e, text)
		}
	}
	if got, e := Text(source(t, "(int   a) ; remark\n(set a\n(+ 1\t2))(each (put b 1))")); got != "(int a)\n(set a (+ 1 2))\n(each (put b 1))\n" || e != api.OK {
		t.Error(got, e)
	}
}

func TestP9_3AndP9_4TextsComeBack(t *testing.T) {
	for _, text := range proof.Sources() {
		textComesBack(t, source(t, text))
	}
	textComesBack(t, source(t, declarations(24)))
	textComesBack(t, source(t, strings.Repeat("(set a 1) ", 100)))
	textComesBack(t, source(t, strings.Repeat("(while 1 ", 12)+strings.Repeat(")", 12)))
	textComesBack(t, api.Program{})
}

func TestP9_2Words(t *testing.T) {
	words := strings.Fields("+ - * / % min max shl shr & | ^ = < not and or if narrow")
	for i, o := range []api.Op{api.Add, api.Sub, api.Mul, api.Div, api.Mod, api.Min, api.Max, api.Shl, api.Shr, api.BitAnd, api.BitOr, api.BitXor, api.Eq, api.Lt, api.Not, api.And, api.Or, api.If, api.Narrow} {
		if got := OpWord(o); got != words[i] {
			t.Errorf("%d: %q, not %q", o, got, words[i])
		}
		if got, is := ReadOp(words[i]); got != o || !is {
			t.Errorf("%q: %d, %v, not %d", words[i], got, is, o)
		}
	}
	for o := range 256 {
		if got := OpWord(api.Op(o)); (got == "") != (o == 0 || o > 19) {
			t.Errorf("%d: %q", o, got)
		}
	}
	for _, word := range []string{"", " ", "a", "add", "mul", "Min", "mins", "mi", "+ ", " +", "++", "-1", "1", "(", "true", "own", "set", "int", "iff", "\x00", "\xff", "not and", ">", "!=", "==", "<="} {
		if o, is := ReadOp(word); o != api.NoOp || is {
			t.Errorf("%q: %d, %v", word, o, is)
		}
	}
}

func TestE4TextsOfSoundProgramsCanPassTheLimitsOfTexts(t *testing.T) {
	// 400 forms are told as more than 600 tokens, or 3000 bytes: the program is sound, and its text is refused where it passes the limit.
	l, top := []api.Form{}, []int{}
	for range 80 {
		at := len(l)
		top = append(top, at)
		l = append(l, api.Form{Kind: api.Open, Kids: []int{at + 1, at + 2, at + 3, at + 4}}, api.Form{Kind: api.Name, Text: "if"}, api.Form{Kind: api.Name, Text: "a"}, api.Form{Kind: api.Open}, api.Form{Kind: api.Open})
	}
	p, _, e := Read(l, top)
	text, f := Text(p)
	if e != api.OK || !Sound(p) || f != api.OK || text != strings.Repeat("(if a () ())\n", 80) {
		t.Fatal(e, f, text)
	}
	if _, at, e := Source(text); e != api.ErrSpace || at != 75*len("(if a () ())\n") {
		t.Error(at, e)
	}
	if m, also, e := Write(p); e != api.OK || !show.Same(l, top, m, also) {
		t.Error(e)
	}
}
