package show

import (
	"math"
	"slices"
	"strings"
	"testing"

	"reticule/api"
	"reticule/lex"
	"reticule/proof"
	"reticule/tree"
)

// The calls have the signatures that the chapter lists.
var (
	_ func(l []api.Form, top []int) (string, api.Errno)            = Print
	_ func(l []api.Form, at int) (string, api.Errno)               = One
	_ func(string) int                                             = Lines
	_ func(l []api.Form, top []int, m []api.Form, also []int) bool = Same
	_ func(l []api.Form, top []int) (string, api.Errno)            = Pretty
)

func bracket(kids ...int) api.Form { return api.Form{Kind: api.Open, Kids: kids} }
func name(text string) api.Form    { return api.Form{Kind: api.Name, Text: text} }
func number(n api.Word) api.Form   { return api.Form{Kind: api.Number, Num: n} }

// formsOf are the forms of a text, if it has some.
func formsOf(text string) ([]api.Form, []int, bool) {
	tokens, _, e := lex.Tokens(text)
	if e != api.OK {
		return nil, nil, false
	}
	l, top, _, e := tree.Parse(tokens)
	return l, top, e == api.OK
}

// read are the forms of a text that has some.
func read(t *testing.T, text string) ([]api.Form, []int) {
	t.Helper()
	l, top, is := formsOf(text)
	if !is {
		t.Fatalf("%q has no forms", text)
	}
	return l, top
}

func pieces() []string { return []string{"(", ")", " a", " -7\n", ";\n+ "} }

func wantText(t *testing.T, what string, got string, e api.Errno, want string) {
	t.Helper()
	if got != want || e != api.OK {
		t.Errorf("%.200s: %q, %d, not %q", what, got, e, want)
	}
}

func wantNone(t *testing.T, what string, got string, e, want api.Errno) {
	t.Helper()
	if got != "" || e != want {
		t.Errorf("%.200s: %.80q, %d, not %d", what, got, e, want)
	}
}

func TestP8_1Print(t *testing.T) {
	for text, want := range map[string]string{
		"": "", "; a\n": "", "a": "a\n", "-5": "-5\n", "()": "()\n", "( )": "()\n", "a b": "a\nb\n", "(a   (b 1))": "(a (b 1))\n",
		"(a(b 1)())c": "(a (b 1) ())\nc\n", "(()())": "(() ())\n", "((a)b)": "((a) b)\n", "(((1)))2": "(((1)))\n2\n", "+ < (%)": "+\n<\n(%)\n",
		"(set a\n\t-9223372036854775808) 9223372036854775807": "(set a -9223372036854775808)\n9223372036854775807\n",
	} {
		l, top := read(t, text)
		got, e := Print(l, top)
		wantText(t, text, got, e, want)
	}
	got, e := Print(nil, nil)
	wantText(t, "nothing", got, e, "")
	got, e = Print([]api.Form{}, []int{})
	wantText(t, "nothing", got, e, "")
}

func TestP8_1PrintIsOneByOne(t *testing.T) {
	proof.Texts(6, pieces(), func(text string) {
		l, top, is := formsOf(text)
		if !is {
			return
		}
		var want strings.Builder
		for _, at := range top {
			one, _ := One(l, at)
			want.WriteString(one + "\n")
		}
		got, e := Print(l, top)
		wantText(t, text, got, e, want.String())
	})
}

// wrongs are lists that are not right, and their uppermost places.
func wrongs() (lists [][]api.Form, tops [][]int) {
	add := func(top []int, l ...api.Form) { lists, tops = append(lists, l), append(tops, top) }
	add([]int{0})
	add([]int{-1})
	add(nil, name("a"))
	add([]int{0, 0}, name("a"))
	add([]int{1}, name("a"))
	add([]int{1, 0}, name("a"), name("b"))
	add([]int{0}, api.Form{})
	add([]int{0}, api.Form{Kind: api.Close})
	add([]int{0}, name("B"))
	add([]int{0}, name("1"))
	add([]int{0}, name("a b"))
	add([]int{0}, api.Form{Kind: api.Name, Text: "a", Num: 1})
	add([]int{0}, api.Form{Kind: api.Number, Text: "1", Num: 1})
	add([]int{0}, api.Form{Kind: api.Open, Text: "("})
	add([]int{0}, api.Form{Kind: api.Name, Text: "a", Kids: []int{1}}, name("b"))
	add([]int{0}, bracket(0))
	add([]int{0}, bracket(1, 1), name("a"))
	add([]int{0}, bracket(2, 1), name("a"), name("b"))
	add([]int{0}, bracket(1, 2), bracket(2), name("a"))
	add([]int{0}, meeting(100)...)
	add([]int{0}, nested(13)...)
	add([]int{0}, wide(401)...)
	return lists, tops
}

// meeting are n brackets, both kids of each the one behind: 2 to the n ways go down.
func meeting(n int) []api.Form {
	l := nested(n)
	for i := range n - 1 {
		l[i].Kids = []int{i + 1, i + 1}
	}
	return l
}

// nested are n brackets, each in the one ahead.
func nested(n int) []api.Form {
	var l []api.Form
	for i := range n {
		l = append(l, bracket(i+1))
	}
	l[n-1].Kids = nil
	return l
}

// wide are n forms: a bracket, and names in it.
func wide(n int) []api.Form {
	l := []api.Form{bracket()}
	for i := 1; i < n; i++ {
		l[0].Kids = append(l[0].Kids, i)
		l = append(l, name("a"))
	}
	return l
}

func TestP8_1PrintOfWhatIsNotRight(t *testing.T) {
	lists, tops := wrongs()
	for i := range lists {
		got, e := Print(lists[i], tops[i])
		wantNone(t, "Print", got, e, api.ErrForm)
	}
	got, e := Print(wide(400), []int{0})
	wantText(t, "400 forms", got, e, "(a"+strings.Repeat(" a", 398)+")\n")
	got, e = Print(nested(12), []int{0})
	wantText(t, "12 brackets", got, e, strings.Repeat("(", 12)+strings.Repeat(")", 12)+"\n")
}

func TestP8_1One(t *testing.T) {
	l, _ := read(t, "(a (b 1) ()) c")
	for at, want := range []string{"(a (b 1) ())", "a", "(b 1)", "b", "1", "()", "c"} {
		got, e := One(l, at)
		wantText(t, "One", got, e, want)
	}
	for _, at := range []int{-1, 7, 8, math.MinInt, math.MaxInt} {
		got, e := One(l, at)
		wantNone(t, "no place", got, e, api.ErrRange)
		got, e = One([]api.Form{{}, {}}, at)
		wantNone(t, "no place", got, e, api.ErrRange)
	}
	got, e := One(nil, 0)
	wantNone(t, "nothing", got, e, api.ErrRange)
}

// One asks less than Right: what is told of it is that it is a form, its kids are behind it, and how many they are.
func TestP8_1OneOfAnyList(t *testing.T) {
	for _, c := range []struct {
		want string
		l    []api.Form
	}{
		{"No Name(", []api.Form{name("No Name(")}}, {"", []api.Form{name("")}}, {"( x)", []api.Form{bracket(1, 2), name(""), name("x")}},
		{"5", []api.Form{{Kind: api.Number, Text: "seven", Num: 5}}}, {"a", []api.Form{{Kind: api.Name, Text: "a", Num: 5}}}, {"()", []api.Form{{Kind: api.Open, Text: "x", Num: 5}}},
		{"-9223372036854775808", []api.Form{number(-1 << 63)}},
		// Kids of words are passed over, whatever they are.
		{"a", []api.Form{{Kind: api.Name, Text: "a", Kids: []int{0, -1, 9, 1}}, {}}}, {"(3)", []api.Form{bracket(1), {Kind: api.Number, Num: 3, Kids: []int{0, 1, 2}}, {}}},
		// Forms that are met twice are told twice; those that are not met may be anything.
		{"(a a)", []api.Form{bracket(1, 1), name("a")}}, {"((x) x (x))", []api.Form{bracket(1, 2, 1), bracket(2), name("x")}}, {"(b a)", []api.Form{bracket(2, 1), name("a"), name("b")}},
		{"(x)", []api.Form{bracket(3), {}, bracket(0), name("x")}},
	} {
		got, e := One(c.l, 0)
		wantText(t, c.want, got, e, c.want)
	}
	for n := range 20 { // deeper than brackets of texts
		got, e := One(nested(n+1), 0)
		wantText(t, "deep", got, e, strings.Repeat("(", n+1)+strings.Repeat(")", n+1))
	}
}

func TestP8_1OneOfWhatIsNoForm(t *testing.T) {
	for _, wrong := range []api.Form{
		{}, {Kind: api.Close}, {Kind: api.Close, Text: ")"}, {Kind: 5, Text: "a"}, {Kind: 255},
		bracket(-1), bracket(0), bracket(99), bracket(math.MaxInt), bracket(math.MinInt), {Kind: api.Open, Kids: []int{4, -1}}, {Kind: api.Open, Kids: []int{4, 5}},
	} {
		for _, l := range [][]api.Form{
			{wrong, name("a"), name("a"), name("a"), name("a")},
			{bracket(1), wrong, name("a"), name("a"), name("a")},
			{bracket(1, 2), name("a"), bracket(3), wrong, name("a")},
			{bracket(1, 2), bracket(3), name("b"), wrong, name("a")},
		} {
			got, e := One(l, 0)
			wantNone(t, "wrong", got, e, api.ErrForm)
		}
	}
	for _, l := range [][]api.Form{{bracket(1), bracket(1)}, {bracket(1), bracket(0)}, {bracket(1, 2), bracket(), bracket(1)}, {bracket(1), bracket(2)}} {
		got, e := One(l, 0)
		wantNone(t, "kids that are not behind", got, e, api.ErrForm)
	}
}

func TestP8_1OneMaxForms(t *testing.T) {
	a := func(n int) string { return "(" + strings.Repeat("a ", n-2) + "a)" }
	for _, l := range [][]api.Form{wide(400), {bracket(slices.Repeat([]int{1}, 399)...), name("a")}} {
		got, e := One(l, 0)
		wantText(t, "400 forms", got, e, a(400))
	}
	got, e := One(nested(400), 0)
	wantText(t, "400 brackets", got, e, strings.Repeat("(", 400)+strings.Repeat(")", 400))
	got, e = One(meeting(8), 0)
	if len(got) != 2*255+127 || e != api.OK {
		t.Error(len(got), e)
	}
	for _, l := range [][]api.Form{wide(401), nested(401), {bracket(slices.Repeat([]int{1}, 400)...), name("a")}, meeting(9), meeting(64), meeting(5000), nested(50000)} {
		got, e := One(l, 0)
		wantNone(t, "too many", got, e, api.ErrForm)
	}
	got, e = One(nested(401), 1)
	wantText(t, "400 brackets", got, e, strings.Repeat("(", 400)+strings.Repeat(")", 400))
	long := append(wide(400), wide(400)...) // how many others there are is nothing to a form
	got, e = One(long, 0)
	wantText(t, "400 forms", got, e, a(400))
}

func TestP8_1Lines(t *testing.T) {
	for text, want := range map[string]int{"": 1, "a": 1, "\n": 2, "a\n": 2, "a\nb": 2, "\n\n\n": 4, "a\r\n\rb": 2, "(a\n  (b 1)\n  ())\nc\n": 5, "Ċ\x8a\v\u2028": 1, "\xff\n\xff": 2, strings.Repeat("\n", 5000): 5001} {
		if got := Lines(text); got != want {
			t.Errorf("%.20q: %d, not %d", text, got, want)
		}
	}
}

func TestP8_1Same(t *testing.T) {
	all := []string{"", "a", "b", "0", "1", "2", "()", "(a)", "a a", "(a a)", "(a b)", "(b a)", "((a) b)", "(a (b))", "((a b))", "(a) b", "a (b)", "() ()", "(())", "(a (b 1) ())", "(a (b 1)) ()", "(a (b 2) ())", "(a (+ 1) ())", "(a (b 1) () c)"}
	for i, x := range all {
		for k, y := range all {
			l, top := read(t, x)
			m, also := read(t, " ; elsewhere\n"+strings.ReplaceAll(y, " ", "\t\n"))
			if got := Same(l, top, m, also); got != (i == k) {
				t.Errorf("%q, %q: %v", x, y, got)
			}
		}
	}
	l, top := []api.Form{{Kind: api.Open, At: -5, Kids: []int{}}}, []int{0}
	if !Same(l, top, []api.Form{{Kind: api.Open, At: 5}}, top) || !Same(nil, nil, []api.Form{}, []int{}) {
		t.Error("At, and lists that are empty or none, are no difference")
	}
}

func TestP8_1SameOfWhatIsNotRight(t *testing.T) {
	lists, tops := wrongs()
	l, top := read(t, "(a)")
	for i := range lists {
		if Same(lists[i], tops[i], lists[i], tops[i]) || Same(l, top, lists[i], tops[i]) || Same(lists[i], tops[i], l, top) || Same(nil, nil, lists[i], tops[i]) {
			t.Errorf("%d", i)
		}
	}
}

// Each field but At tells forms apart.
func TestP8_1SameField(t *testing.T) {
	l, top := read(t, "(a (b 1) ()) c")
	for at := range l {
		for _, change := range []func(*api.Form){
			func(f *api.Form) { *f = name("other") },
			func(f *api.Form) { *f = number(77) },
			func(f *api.Form) { f.Kids = append(slices.Clone(f.Kids), at+1) },
		} {
			m := slices.Clone(l)
			change(&m[at])
			if Same(l, top, m, top) || Same(m, top, l, top) {
				t.Errorf("%v is %v", m, l)
			}
		}
		m := slices.Clone(l)
		m[at].At += 1000
		if !Same(l, top, m, top) {
			t.Errorf("%v is not %v", m, l)
		}
	}
}

func TestP8_2PrintIsReadBack(t *testing.T) {
	proof.Texts(6, pieces(), func(text string) {
		l, top, is := formsOf(text)
		if !is {
			return
		}
		printed, _ := Print(l, top)
		m, also, is := formsOf(printed)
		if !is || !Same(l, top, m, also) {
			t.Errorf("%q: %q", text, printed)
		}
	})
}

func TestP8_3PrintOfPrintIsThatText(t *testing.T) {
	proof.Texts(6, pieces(), func(text string) {
		l, top, is := formsOf(text)
		if !is {
			return
		}
		printed, _ := Print(l, top)
		m, also, _ := formsOf(printed)
		again, e := Print(m, also)
		wantText(t, text, again, e, printed)
	})
}

func TestP1NilLists(t *testing.T) {
	for _, call := range []func([]api.Form, []int) (string, api.Errno){Print, Pretty} {
		got, e := call(nil, nil)
		wantText(t, "nothing", got, e, "")
		got, e = call(nil, []int{0})
		wantNone(t, "no forms", got, e, api.ErrForm)
		got, e = call([]api.Form{{}}, nil)
		wantNone(t, "no top", got, e, api.ErrForm)
	}
	got, e := One(nil, 0)
	wantNone(t, "no forms", got, e, api.ErrRange)
	if !Same(nil, nil, nil, nil) || Same(nil, nil, nil, []int{0}) || Same(nil, []int{0}, nil, []int{0}) {
		t.Error("Same of nothing")
	}
}

func TestP3WhatIsHandedInStays(t *testing.T) {
	l, top := read(t, "(a (b 1) ((c) d)) e")
	l, top = append(l, name("spare"))[:len(l)], append(top, 77)[:len(top)]
	for i := range l {
		l[i].Kids = append(l[i].Kids, 77, 77)[:len(l[i].Kids)]
	}
	want, wantTop := slices.Clone(l[:len(l)+1]), slices.Clone(top[:len(top)+1])
	var kids [][]int
	for _, form := range l {
		kids = append(kids, slices.Clone(form.Kids[:len(form.Kids)+2]))
	}
	Print(l, top)
	Pretty(l, top)
	Same(l, top, l, top)
	for at := range l {
		One(l, at)
	}
	for i, form := range l {
		if !slices.Equal(form.Kids[:len(form.Kids)+2], kids[i]) {
			t.Errorf("the kids of %d are %v", i, form.Kids)
		}
	}
	if l[:len(l)+1][len(l)].Text != "spare" || !slices.Equal(top[:len(top)+1], wantTop) || !Same(l, top, want[:len(l)], wantTop[:len(top)]) {
		t.Error(l, top)
	}
}

// E1 and P6: texts are the same, however often, and whatever others are told.
func TestP6NothingIsKeptBetweenCalls(t *testing.T) {
	l, top := read(t, "(a ((b) 1)) c")
	for range 20 {
		One(meeting(50), 0)
		Print(nil, []int{0})
		Pretty(nested(12), []int{0})
		got, e := Print(l, top)
		wantText(t, "Print", got, e, "(a ((b) 1))\nc\n")
		got, e = Pretty(l, top)
		wantText(t, "Pretty", got, e, "(a\n  (\n    (b)\n    1))\nc\n")
	}
}
