package tree

import (
	"math"
	"slices"
	"strings"
	"testing"

	"reticule/api"
	"reticule/lex"
	"reticule/proof"
)

// The calls have the signatures that the chapter lists.
var (
	_ func([]api.Token) ([]api.Form, []int, int, api.Errno)                                  = Parse
	_ func(l []api.Form, top []int) bool                                                     = Right
	_ func(l []api.Form, top []int) int                                                      = Depth
	_ func(l []api.Form, at int) int                                                         = Size
	_ func(l []api.Form, at int) []int                                                       = Below
	_ func(l []api.Form, at int) ([]api.Form, []int, api.Errno)                              = Alone
	_ func(l []api.Form, top []int, m []api.Form, also []int) ([]api.Form, []int, api.Errno) = Both
)

func bracket(at int, kids ...int) api.Form { return api.Form{Kind: api.Open, Kids: kids, At: at} }
func name(text string, at int) api.Form    { return api.Form{Kind: api.Name, Text: text, At: at} }
func number(n api.Word, at int) api.Form   { return api.Form{Kind: api.Number, Num: n, At: at} }

func sameForm(a, b api.Form) bool {
	return a.Kind == b.Kind && a.Text == b.Text && a.Num == b.Num && a.At == b.At && slices.Equal(a.Kids, b.Kids)
}

func sameForms(a, b []api.Form) bool { return slices.EqualFunc(a, b, sameForm) }

// formsOf are the forms of a text that has some.
func formsOf(t *testing.T, text string) ([]api.Form, []int) {
	t.Helper()
	tokens, _, e := lex.Tokens(text)
	if e != api.OK {
		t.Fatalf("%q has no tokens: %d", text, e)
	}
	l, top, at, e := Parse(tokens)
	if at != 0 || e != api.OK {
		t.Fatalf("%q has no forms: %d, %d", text, at, e)
	}
	return l, top
}

// texts are some that are right.
func texts() []string {
	return []string{
		"", "a", "1", "()", "a b", "(a)", "()()", "(())", "(a (b 1))", "(a (b 1) ()) c", "((a) b (c d)) -5 () (((1)) 2) +",
		"(int a) (set a (+ 1 2)) (while (< a 9) (set a (* a a)))", "((((((((((((x))))))))))))", "(((((((((((())))))))))))(a(b(c)))",
	}
}

// kinds are tokens of all kinds, and of none.
func kinds() []api.Token {
	return []api.Token{
		{Kind: api.Open, Text: "("}, {Kind: api.Close, Text: ")"}, {Kind: api.Name, Text: "a"}, {Kind: api.Number, Text: "-7", Num: -7}, {Kind: 77, Text: "q", Num: 3},
	}
}

// every does f with all rows of up to n of the tokens, each at another place.
func every(n int, tokens []api.Token, f func([]api.Token)) {
	proof.Rows(n, tokens, func(row []api.Token) {
		for i := range row {
			row[i].At = 5*i + 3
		}
		f(row)
	})
}

// plainParse finds the forms one by one: the kids of a bracket are those that stand one deeper, up to its end.
func plainParse(l []api.Token) (forms []api.Form, top []int, at int, e api.Errno) {
	var deep []int
	var open []api.Token
	for _, token := range l {
		switch {
		case token.Kind == api.Close && len(open) == 0:
			return nil, nil, token.At, api.ErrSyntax
		case token.Kind == api.Close:
			open = open[:len(open)-1]
			continue
		case token.Kind == api.Open && len(open) == 12, token.Kind >= api.Open && token.Kind <= api.Number && len(forms) == 400:
			return nil, nil, token.At, api.ErrSpace
		case token.Kind == api.Open:
			forms = append(forms, bracket(token.At))
		case token.Kind == api.Name:
			forms = append(forms, name(token.Text, token.At))
		case token.Kind == api.Number:
			forms = append(forms, number(token.Num, token.At))
		default:
			continue
		}
		deep = append(deep, len(open))
		if token.Kind == api.Open {
			open = append(open, token)
		}
	}
	if len(open) > 0 {
		return nil, nil, open[len(open)-1].At, api.ErrSyntax
	}
	for i := range forms {
		if deep[i] == 0 {
			top = append(top, i)
		}
		for k := i + 1; k < len(forms) && deep[k] > deep[i]; k++ {
			if deep[k] == deep[i]+1 {
				forms[i].Kids = append(forms[i].Kids, k)
			}
		}
	}
	return forms, top, 0, api.OK
}

// texted are the texts of tokens.
func texted(l []api.Token) string {
	var out strings.Builder
	for _, token := range l {
		out.WriteString(token.Text + " ")
	}
	return out.String()
}

func wantParse(t *testing.T, l []api.Token, forms []api.Form, top []int) {
	t.Helper()
	got, gotTop, at, e := Parse(l)
	if !sameForms(got, forms) || !slices.Equal(gotTop, top) || at != 0 || e != api.OK {
		t.Errorf("%v: %v, %v, %d, %d, not %v, %v", texted(l), got, gotTop, at, e, forms, top)
	}
}

func wantFault(t *testing.T, l []api.Token, at int, e api.Errno) {
	t.Helper()
	got, top, gotAt, gotE := Parse(l)
	if len(got) != 0 || len(top) != 0 || gotAt != at || gotE != e {
		t.Errorf("%.80q: %d forms, %v, %d, %d, not %d, %d", texted(l), len(got), top, gotAt, gotE, at, e)
	}
}

// row are n times the token, the first one at the place, each further one by 2 behind.
func row(kind api.TokenKind, n, at int) []api.Token {
	var out []api.Token
	for i := range n {
		out = append(out, api.Token{Kind: kind, Text: "a", At: at + 2*i})
	}
	return out
}

func TestP7_1Parse(t *testing.T) {
	for text, want := range map[string][]api.Form{
		"":               nil,
		"  ; (a\n":       nil,
		"(a (b 1))":      {bracket(0, 1, 2), name("a", 1), bracket(3, 3, 4), name("b", 4), number(1, 6)},
		"()":             {bracket(0)},
		"((a)b)":         {bracket(0, 1, 3), bracket(1, 2), name("a", 2), name("b", 4)},
		"(() () 9)":      {bracket(0, 1, 2, 3), bracket(1), bracket(4), number(9, 7)},
		" (+ -5\n(())1)": {bracket(1, 1, 2, 3, 5), name("+", 2), number(-5, 4), bracket(7, 4), bracket(8), number(1, 11)},
	} {
		tokens, _, _ := lex.Tokens(text)
		var top []int
		if len(want) > 0 {
			top = []int{0}
		}
		wantParse(t, tokens, want, top)
	}
	tokens, _, _ := lex.Tokens("a (b) 1 ()")
	wantParse(t, tokens, []api.Form{name("a", 0), bracket(2, 2), name("b", 3), number(1, 6), bracket(8)}, []int{0, 1, 3, 4})
	wantParse(t, nil, nil, nil)
	wantParse(t, []api.Token{}, nil, nil)
}

// What a token has beside what its kind says is not told.
func TestP7_1ParseOfAnyTokens(t *testing.T) {
	wantParse(t, []api.Token{
		{Kind: api.Open, Text: "x", Num: 5, At: -3}, {Kind: api.Name, Text: "b", Num: 7, At: math.MaxInt}, {Kind: api.Number, Text: "seven", Num: 8, At: math.MinInt},
		{Kind: api.Name, Text: "No Name", At: 1}, {Kind: api.Name, At: 1}, {Kind: api.Close, Text: "(", Num: 9, At: -3},
	}, []api.Form{bracket(-3, 1, 2, 3, 4), name("b", math.MaxInt), number(8, math.MinInt), name("No Name", 1), name("", 1)}, []int{0})
}

func TestP7_1TokensOfNoKindArePassedOver(t *testing.T) {
	for _, kind := range []api.TokenKind{api.NoToken, 5, 6, 255} {
		none := api.Token{Kind: kind, Text: "(", Num: 1, At: 99}
		wantParse(t, []api.Token{none, none}, nil, nil)
		for _, text := range texts() {
			tokens, _, _ := lex.Tokens(text)
			want, top := formsOf(t, text)
			var mixed []api.Token
			for _, token := range tokens {
				mixed = append(mixed, none, token, none)
			}
			wantParse(t, mixed, want, top)
		}
		full := append(row(api.Name, 400, 0), none, none)
		if l, top, at, e := Parse(full); len(l) != 400 || len(top) != 400 || at != 0 || e != api.OK {
			t.Error(len(l), len(top), at, e)
		}
		wantFault(t, append(full, api.Token{Kind: api.Number, At: 4444}), 4444, api.ErrSpace)
	}
}

func TestP7_1Syntax(t *testing.T) {
	for text, at := range map[string]int{
		")": 0, "a)": 1, "())": 2, "(a) b ) (": 6, "(a (b)) )) (": 8, ")(": 0, ";)\n )": 4,
		"(": 0, "(a (b": 3, "((a) (b)": 0, "(a) (b (c) d": 4, "(a) (b (c) (d e) (f () ((g": 24, "()(": 2, "(()": 0,
	} {
		tokens, _, _ := lex.Tokens(text)
		wantFault(t, tokens, at, api.ErrSyntax)
	}
}

func TestP7_1MaxDepth(t *testing.T) {
	for _, ahead := range []string{"", "a ", "()", "(a (b 1))", "(((((((((((())))))))))))"} {
		tokens, _, _ := lex.Tokens(ahead + strings.Repeat("(", 12) + strings.Repeat(")", 12))
		if l, top, at, e := Parse(tokens); e != api.OK || at != 0 || Depth(l, top) != 12 || !Right(l, top) {
			t.Errorf("%q: %d, %d", ahead, at, e)
		}
		for _, behind := range []string{"", strings.Repeat(")", 13), strings.Repeat(")", 20), "(((", "a"} {
			tokens, _, _ = lex.Tokens(ahead + strings.Repeat("(", 13) + behind)
			wantFault(t, tokens, len(ahead)+12, api.ErrSpace)
		}
		// Words, and brackets behind others that were closed, have room.
		tokens, _, _ = lex.Tokens(ahead + strings.Repeat("(", 12) + "a 1) ()) (()" + strings.Repeat(")", 11))
		want, top, _, _ := plainParse(tokens)
		wantParse(t, tokens, want, top)
	}
}

func TestP7_1MaxForms(t *testing.T) {
	for _, kind := range []api.TokenKind{api.Name, api.Number} {
		wantOK := row(kind, 400, 0)
		if l, top, at, e := Parse(wantOK); len(l) != 400 || len(top) != 400 || at != 0 || e != api.OK {
			t.Error(len(l), len(top), at, e)
		}
		for _, more := range []api.TokenKind{api.Open, api.Name, api.Number} {
			wantFault(t, append(row(kind, 400, 0), row(more, 3, 6000)...), 6000, api.ErrSpace)
		}
	}
	var pairs []api.Token
	for i := range 400 {
		pairs = append(pairs, api.Token{Kind: api.Open, At: 2 * i}, api.Token{Kind: api.Close, At: 2*i + 1})
	}
	if l, top, at, e := Parse(pairs); len(l) != 400 || len(top) != 400 || at != 0 || e != api.OK {
		t.Error(len(l), len(top), at, e)
	}
	wantFault(t, append(pairs, api.Token{Kind: api.Open, At: 801}), 801, api.ErrSpace)
	// A Close is no form.
	held := append(append(row(api.Open, 1, 0), row(api.Name, 399, 2)...), row(api.Close, 1, 900)...)
	if l, top, at, e := Parse(held); len(l) != 400 || !slices.Equal(top, []int{0}) || len(l[0].Kids) != 399 || at != 0 || e != api.OK {
		t.Error(len(l), top, at, e)
	}
}

func TestP7_1TheFirstErrorIsTold(t *testing.T) {
	for _, c := range []struct {
		at    int
		e     api.Errno
		parts [][]api.Token
	}{
		{1, api.ErrSyntax, [][]api.Token{row(api.Close, 1, 1), row(api.Open, 13, 3)}},
		{1, api.ErrSyntax, [][]api.Token{row(api.Close, 1, 1), row(api.Name, 401, 3)}},
		{1, api.ErrSyntax, [][]api.Token{row(api.Close, 1, 1), row(api.Open, 1, 3)}},
		{24, api.ErrSpace, [][]api.Token{row(api.Open, 13, 0), row(api.Close, 14, 40)}},
		{24, api.ErrSpace, [][]api.Token{row(api.Open, 13, 0), row(api.Name, 401, 40)}},
		{800, api.ErrSpace, [][]api.Token{row(api.Name, 401, 0), row(api.Close, 1, 5000)}},
		{800, api.ErrSpace, [][]api.Token{row(api.Name, 400, 0), row(api.Open, 13, 800)}},
		{798, api.ErrSyntax, [][]api.Token{row(api.Name, 399, 0), row(api.Close, 1, 798), row(api.Name, 9, 5000)}},
		{800, api.ErrSyntax, [][]api.Token{row(api.Name, 400, 0), row(api.Close, 1, 800), row(api.Name, 1, 802)}},
		{900, api.ErrSpace, [][]api.Token{row(api.Open, 1, 0), row(api.Name, 399, 2), row(api.Name, 1, 900)}},
		{900, api.ErrSpace, [][]api.Token{row(api.Open, 1, 0), row(api.Name, 399, 2), row(api.Name, 1, 900), row(api.Close, 2, 950)}},
		{952, api.ErrSyntax, [][]api.Token{row(api.Open, 1, 0), row(api.Name, 399, 2), row(api.Close, 2, 950), row(api.Name, 1, 990)}},
		{900, api.ErrSpace, [][]api.Token{row(api.Open, 12, 0), row(api.Name, 388, 100), row(api.Open, 1, 900)}},
		{22, api.ErrSyntax, [][]api.Token{row(api.Open, 12, 0), row(api.Name, 388, 100)}},
	} {
		wantFault(t, slices.Concat(c.parts...), c.at, c.e)
	}
}

func TestP7_1AllShortRows(t *testing.T) {
	every(7, kinds(), func(l []api.Token) {
		forms, top, at, e := plainParse(l)
		if e != api.OK {
			wantFault(t, l, at, e)
			return
		}
		wantParse(t, l, forms, top)
	})
}

func TestP7_3ParsedIsRight(t *testing.T) {
	every(7, kinds(), func(l []api.Token) {
		if forms, top, _, e := Parse(l); e == api.OK && !Right(forms, top) {
			t.Errorf("%v: %v, %v", l, forms, top)
		}
	})
	for _, text := range texts() {
		if l, top := formsOf(t, text); !Right(l, top) {
			t.Errorf("%q: %v, %v", text, l, top)
		}
	}
}

func TestP7_4SizesOfTopAreAllForms(t *testing.T) {
	every(7, kinds(), func(l []api.Token) {
		forms, top, _, _ := Parse(l)
		sum := 0
		for _, at := range top {
			sum += Size(forms, at)
		}
		if sum != len(forms) {
			t.Errorf("%v: %d, not %d", l, sum, len(forms))
		}
	})
}

func TestP7_5FormsAreTokensButForClose(t *testing.T) {
	every(7, kinds()[:4], func(l []api.Token) {
		forms, _, _, e := Parse(l)
		if e != api.OK {
			return
		}
		want := 0
		for _, token := range l {
			if token.Kind != api.Close {
				want++
			}
		}
		if len(forms) != want {
			t.Errorf("%v: %d, not %d", l, len(forms), want)
		}
	})
}
