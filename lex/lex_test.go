package lex

import (
	"math"
	"slices"
	"strings"
	"testing"

	"reticule/api"
	"reticule/num"
	"reticule/proof"
)

// The calls have the signatures that the chapter lists.
var (
	_ func(string) ([]api.Token, int, api.Errno) = Tokens
	_ func(string) api.TokenKind                 = WordKind
	_ func(byte) bool                            = Spaced
	_ func(text string, at int) (int, int)       = Line
)

func open(at int) api.Token              { return api.Token{Kind: api.Open, Text: "(", At: at} }
func shut(at int) api.Token              { return api.Token{Kind: api.Close, Text: ")", At: at} }
func name(text string, at int) api.Token { return api.Token{Kind: api.Name, Text: text, At: at} }
func number(text string, n api.Word, at int) api.Token {
	return api.Token{Kind: api.Number, Text: text, Num: n, At: at}
}

func wantTokens(t *testing.T, text string, want ...api.Token) {
	t.Helper()
	got, at, e := Tokens(text)
	if !slices.Equal(got, want) || at != 0 || e != api.OK {
		t.Errorf("%q: %v, %d, %d, not %v", text, got, at, e, want)
	}
}

func wantError(t *testing.T, text string, at int, e api.Errno) {
	t.Helper()
	l, gotAt, gotE := Tokens(text)
	if len(l) != 0 || gotAt != at || gotE != e {
		t.Errorf("%.40q: %v, %d, %d, not %d, %d", text, l, gotAt, gotE, at, e)
	}
}

func operators() []string { return strings.Split("+ - * / % & | ^ = <", " ") }

// blanked is the text with blanks in place of remarks and of signs between words, byte by byte.
func blanked(text string) string {
	b := []byte(text)
	for i := 0; i < len(b); i++ {
		if b[i] == ';' {
			for ; i < len(b) && b[i] != 10; i++ {
				b[i] = ' '
			}
		}
		if i < len(b) && (b[i] == 9 || b[i] == 10) {
			b[i] = ' '
		}
	}
	return string(b)
}

// plainTokens are a text's tokens, found by cutting what is blanked.
func plainTokens(text string) ([]api.Token, int, api.Errno) {
	var l []api.Token
	blank := blanked(text)
	for at := 0; at < len(blank); {
		end := at + 1
		switch blank[at] {
		case ' ':
			at++
			continue
		case '(':
			l = append(l, open(at))
		case ')':
			l = append(l, shut(at))
		default:
			for end < len(blank) && !strings.Contains(" ()", blank[end:end+1]) {
				end++
			}
			word := blank[at:end]
			n, e := num.Parse(word)
			switch {
			case e == api.OK:
				l = append(l, number(word, n, at))
			case plainName(word):
				l = append(l, name(word, at))
			default:
				return nil, at, api.ErrSyntax
			}
		}
		at = end
	}
	return l, 0, api.OK
}

func plainName(word string) bool {
	if slices.Contains(operators(), word) {
		return true
	}
	rest := strings.Trim(word, "abcdefghijklmnopqrstuvwxyz0123456789")
	return len(word) >= 1 && len(word) <= 8 && rest == "" && strings.Index("0123456789", word[:1]) < 0
}

// hard are pieces of texts of all kinds, some of which are no text.
func hard() []string {
	return []string{"(", ")", " ", "\t", "\n", ";", "a", "1", "-", "<", "B", "Ġ", "\xff", "\r"}
}

func TestP6_1Example(t *testing.T) {
	wantTokens(t, "(set a -5)", open(0), name("set", 1), name("a", 5), number("-5", -5, 7), shut(9))
}

func TestP6_1Tokens(t *testing.T) {
	wantTokens(t, "")
	for _, text := range []string{" ", "\t", "\n", " \t\n \n", ";", ";x", ";\n", "; (a B\n\t;;\n;", ";\xff\x00Ġ\n"} {
		wantTokens(t, text)
	}
	wantTokens(t, "(", open(0))
	wantTokens(t, ")", shut(0))
	wantTokens(t, ")(()", shut(0), open(1), open(2), shut(3))
	wantTokens(t, "x(y)z", name("x", 0), open(1), name("y", 2), shut(3), name("z", 4))
	wantTokens(t, "1(2)-3", number("1", 1, 0), open(1), number("2", 2, 2), shut(3), number("-3", -3, 4))
	wantTokens(t, "a b\tc\nd", name("a", 0), name("b", 2), name("c", 4), name("d", 6))
	wantTokens(t, " \t\na \n", name("a", 3))
	wantTokens(t, "- 1 -1", name("-", 0), number("1", 1, 2), number("-1", -1, 4))
	wantTokens(t, "a;b\nc", name("a", 0), name("c", 4))
	wantTokens(t, "a;(b", name("a", 0))
	wantTokens(t, "a ;b", name("a", 0))
	wantTokens(t, "a;", name("a", 0))
	wantTokens(t, "(;)\n)", open(0), shut(4))
	wantTokens(t, "a;;b\n;c\n1", name("a", 0), number("1", 1, 8))
	wantTokens(t, "abcdefgh z9999999", name("abcdefgh", 0), name("z9999999", 9))
	wantTokens(t, "9223372036854775807 -9223372036854775808", number("9223372036854775807", math.MaxInt64, 0), number("-9223372036854775808", math.MinInt64, 20))
	for _, o := range operators() {
		wantTokens(t, "("+o+" a 0)", open(0), name(o, 1), name("a", 3), number("0", 0, 5), shut(6))
	}
}

func TestP6_1WordsThatAreNoToken(t *testing.T) {
	for _, word := range wrong() {
		if strings.ContainsAny(word, " \t\n();") || word == "" {
			continue // these are no words of a text
		}
		wantError(t, word, 0, api.ErrSyntax)
		wantError(t, "("+word+")", 1, api.ErrSyntax)
		wantError(t, "(a 1 ; B\n"+word+";", 9, api.ErrSyntax)
		wantError(t, "a "+word, 2, api.ErrSyntax)
		wantError(t, "a \n "+word+" C", 4, api.ErrSyntax)
		wantError(t, word+" "+word, 0, api.ErrSyntax)
	}
	wantError(t, "Ġ", 0, api.ErrSyntax)
	wantError(t, ";Ġ\nĠ", 4, api.ErrSyntax)
	wantError(t, "aĠ", 0, api.ErrSyntax) // its number's last byte is a blank's
	wantTokens(t, ";ĊB")                 // and of this one a line feed's
	wantError(t, "a\xa0b c", 0, api.ErrSyntax)
	wantError(t, "a \xff", 2, api.ErrSyntax)
	wantError(t, "a\rb", 0, api.ErrSyntax)
	wantError(t, "a \r\nb", 2, api.ErrSyntax)
	wantError(t, "a\x00", 0, api.ErrSyntax)
}

// wrong are texts that are no token's.
func wrong() []string {
	return []string{
		"", " ", "A", "aB", "aBc", "_", "a_", "1a", "0a", "00", "007", "-0", "+1", "-01", "--", "-a", "a-", "++", "<=", "==", ">", "!", "~", "?", "@", "#", "$", "'", "\"", ",", ".", ":", "[", "]", "{", "}", "\\", "`",
		"(", ")", "()", "(a)", ";", ";a", "a;", "a b", " a", "a ", "\ta", "a\n", "1 ", " 1", "+ ", "1.0", "1e3", "0x1", "1_0",
		"abcdefghi", "a12345678", "toolongname", strings.Repeat("a", 1000), "9223372036854775808", "-9223372036854775809", strings.Repeat("9", 30),
		"Ġ", "ĉ", "Ċ", "Ĩ", "ĩ", "Ļ", "š", "aš", "aİ", "aĠb", "aĨ", "aĩ", "aĻ", "ä", "aä", "é", "\x00", "a\x00", "\xff", "a\xff", "\xc4", "\xc4a", "\r", "a\r", "\x0b", "\x0c", "\u00a0", "\u2003", "\ufffd", "\x7f", "١", "½",
	}
}

func TestP6_1WordKind(t *testing.T) {
	for _, word := range wrong() {
		if got := WordKind(word); got != api.NoToken {
			t.Errorf("%.20q: %d", word, got)
		}
	}
	for _, word := range append(operators(), "a", "z", "a0", "z9", "ab", "abcdefgh", "a1234567", "zzzzzzzz", "set", "z0z0", "mnopqrst") {
		if got := WordKind(word); got != api.Name {
			t.Errorf("%q: %d", word, got)
		}
	}
	for _, word := range []string{"0", "1", "-1", "9", "10", "-10", "100", "123456789012", "9223372036854775807", "-9223372036854775808"} {
		if got := WordKind(word); got != api.Number {
			t.Errorf("%q: %d", word, got)
		}
	}
	for c := range 256 { // of one byte
		word := string([]byte{byte(c)})
		want := api.NoToken
		switch {
		case c >= '0' && c <= '9':
			want = api.Number
		case c >= 'a' && c <= 'z' || strings.IndexByte("+-*/%&|^=<", byte(c)) >= 0:
			want = api.Name
		}
		if got := WordKind(word); got != want {
			t.Errorf("%q: %d, not %d", word, got, want)
		}
		want = api.NoToken
		if c >= '0' && c <= '9' || c >= 'a' && c <= 'z' {
			want = api.Name
		}
		if got := WordKind("a" + word); got != want { // a second one
			t.Errorf("%q: %d, not %d", "a"+word, got, want)
		}
	}
	for n := range 20 { // names of n signs
		want := api.NoToken
		if n >= 1 && n <= api.MaxName {
			want = api.Name
		}
		if got := WordKind(strings.Repeat("a", n)); got != want {
			t.Errorf("%d signs: %d, not %d", n, got, want)
		}
	}
}

func TestP6_1Spaced(t *testing.T) {
	for c := range 256 {
		if got, want := Spaced(byte(c)), c == 32 || c == 9 || c == 10; got != want {
			t.Errorf("%d: %v", c, got)
		}
	}
}

// All short texts, of pieces of all kinds.
func TestP6_1ShortTexts(t *testing.T) {
	proof.Texts(4, hard(), func(text string) {
		got, at, e := Tokens(text)
		want, wantAt, wantE := plainTokens(text)
		if !slices.Equal(got, want) || at != wantAt || e != wantE {
			t.Errorf("%q: %v, %d, %d, not %v, %d, %d", text, got, at, e, want, wantAt, wantE)
		}
	})
}

func TestP6_1MaxText(t *testing.T) {
	full := "a" + strings.Repeat(" ", api.MaxText-1)
	wantTokens(t, full, name("a", 0))
	wantTokens(t, strings.Repeat(" ", api.MaxText-1)+"1", number("1", 1, api.MaxText-1))
	wantTokens(t, ";"+strings.Repeat("Ġ", api.MaxText/2-1))
	for _, text := range []string{full + " ", full + "B", "B" + full, strings.Repeat("B", api.MaxText+1), strings.Repeat("(", api.MaxText+1), ";" + strings.Repeat("Ġ", api.MaxText/2), full + full + full} {
		wantError(t, text, 0, api.ErrSpace) // ahead of all else
	}
	wantError(t, strings.Repeat("a", api.MaxText), 0, api.ErrSyntax)
}

func TestP6_1MaxTokens(t *testing.T) {
	for _, one := range []string{"(", ")", "a ", "1\n", "-7 ", "+ ;\n"} {
		full := strings.Repeat(one, api.MaxTokens)
		l, at, e := Tokens(full)
		if len(l) != api.MaxTokens || at != 0 || e != api.OK {
			t.Errorf("%q: %d tokens, %d, %d", one, len(l), at, e)
		}
		for _, text := range []string{full + " \n\t", full + ";(a B"} {
			if l, at, e := Tokens(text); len(l) != api.MaxTokens || at != 0 || e != api.OK {
				t.Errorf("%q: %d tokens, %d, %d", one, len(l), at, e)
			}
		}
		wantError(t, full+one, len(full), api.ErrSpace)
		wantError(t, full+"  "+one, len(full)+2, api.ErrSpace)
		wantError(t, full+";(a B\n"+one+one, len(full)+6, api.ErrSpace)
		// From the beginning on, what comes first is told.
		wantError(t, full+one+" B", len(full), api.ErrSpace)
		wantError(t, full+" B "+one, len(full)+1, api.ErrSyntax)
		wantError(t, "B "+full+one, 0, api.ErrSyntax)
	}
}

func TestP6_2TokensArePiecesAtTheirPlaces(t *testing.T) {
	proof.Texts(4, hard(), func(text string) {
		l, _, _ := Tokens(text)
		end := 0
		for _, token := range l {
			if token.At < end || !strings.HasPrefix(text[token.At:], token.Text) || token.Text == "" {
				t.Errorf("%q: %v", text, l)
			}
			if kind := WordKind(token.Text); kind != token.Kind && (kind != api.NoToken || token.Kind != bracketKind(token.Text)) {
				t.Errorf("%q: %v", text, l)
			}
			end = token.At + len(token.Text)
		}
	})
}

func bracketKind(s string) api.TokenKind {
	switch s {
	case "(":
		return api.Open
	case ")":
		return api.Close
	}
	return api.NoToken
}

// placeless are the tokens, but for their places.
func placeless(l []api.Token) []api.Token {
	out := slices.Clone(l)
	for i := range out {
		out[i].At = 0
	}
	return out
}

func TestP6_3MoreSignsChangeNothingButPlaces(t *testing.T) {
	text := "(set a -5) (each (put b (+ 1 c)) (push a < out 0))"
	l, _, _ := Tokens(text)
	more := []string{" ", "\t", "\n", "  ", " \t\n", ";\n", "; remark (B\n", "\n;;\n ", ";\xffĠ\n"}
	for place := range len(text) + 1 {
		if inWord(text, place) {
			continue
		}
		for _, sign := range more {
			longer := text[:place] + sign + text[place:]
			got, at, e := Tokens(longer)
			if !slices.Equal(placeless(got), placeless(l)) || at != 0 || e != api.OK {
				t.Errorf("%q: %v, %d, %d", longer, got, at, e)
			}
			for i := range got {
				want := l[i].At
				if want >= place {
					want += len(sign)
				}
				if got[i].At != want {
					t.Errorf("%q: %v is at %d, not %d", longer, got[i], got[i].At, want)
				}
			}
		}
	}
	for _, sign := range more { // in place of a blank
		got, at, e := Tokens(strings.ReplaceAll(text, " ", sign))
		if !slices.Equal(placeless(got), placeless(l)) || at != 0 || e != api.OK {
			t.Errorf("%q: %v, %d, %d", sign, got, at, e)
		}
	}
}

// inWord tells whether the place stands between two signs of one word.
func inWord(text string, place int) bool {
	return 0 < place && place < len(text) && !strings.ContainsAny(text[place-1:place+1], " ()")
}

func TestP6_4Line(t *testing.T) {
	for _, c := range []struct {
		text        string
		at          int
		lines, rest int
	}{
		{"", 0, 0, 0}, {"", -1, 0, 0}, {"", 7, 0, 0}, {"", math.MinInt, 0, 0}, {"", math.MaxInt, 0, 0},
		{"ab\nc", -3, 0, 0}, {"ab\nc", 0, 0, 0}, {"ab\nc", 1, 0, 1}, {"ab\nc", 2, 0, 2}, {"ab\nc", 3, 1, 0}, {"ab\nc", 4, 1, 1}, {"ab\nc", 5, 1, 1}, {"ab\nc", math.MaxInt, 1, 1}, {"ab\nc", math.MinInt, 0, 0},
		{"\n", 0, 0, 0}, {"\n", 1, 1, 0}, {"\n", 2, 1, 0}, {"\n\n\n", 2, 2, 0}, {"\n\n\nx", 4, 3, 1}, {"\n\n\nx", 9, 3, 1},
		{"a;\n b", 4, 1, 1}, {"Ġ\nĠ", 1, 0, 1}, {"Ġ\nĠ", 2, 0, 2}, {"Ġ\nĠ", 4, 1, 1}, {"Ġ\nĠ", 5, 1, 2}, {"\xff\r\n\xff\xff", 5, 1, 2}, {"Ċ\x8a", 3, 0, 3},
		{strings.Repeat("ab\n", 5000), 14999, 4999, 2}, {strings.Repeat("ab\n", 5000), 15000, 5000, 0},
	} {
		if lines, rest := Line(c.text, c.at); lines != c.lines || rest != c.rest {
			t.Errorf("Line(%.20q, %d) is %d, %d, not %d, %d", c.text, c.at, lines, rest, c.lines, c.rest)
		}
	}
	proof.Texts(4, []string{"a", "\n", "Ġ", "\xff"}, func(text string) {
		lines, rest := 0, 0
		for at := range len(text) + 3 {
			if gotLines, gotRest := Line(text, at); gotLines != lines || gotRest != rest {
				t.Errorf("Line(%q, %d) is %d, %d, not %d, %d", text, at, gotLines, gotRest, lines, rest)
			}
			if at < len(text) {
				rest++
				if text[at] == 10 {
					lines, rest = lines+1, 0
				}
			}
		}
	})
}

func TestP3TokensAreTheCallers(t *testing.T) {
	text := "(set a -5)"
	l, _, _ := Tokens(text)
	for i := range l[:cap(l)] {
		l[:cap(l)][i] = name("spoilt", 77)
	}
	wantTokens(t, text, open(0), name("set", 1), name("a", 5), number("-5", -5, 7), shut(9))
}

// E1 and P6: a text's tokens are the same, however often, and whatever others are read.
func TestP6NothingIsKeptBetweenTexts(t *testing.T) {
	for range 20 {
		Tokens("(a ;")
		Tokens("a B")
		WordKind("a;")
		Line("\n\n", 2)
		wantTokens(t, "b 1", name("b", 0), number("1", 1, 2))
	}
}
