package script_test

import (
	"slices"
	"strconv"
	"strings"
	"testing"

	"reticule/proof"
	"reticule/script"
)

// The calls have the signatures that the chapter lists.
var (
	_ func(text string) string   = script.Run
	_ func(line string) []string = script.Words
	_ func(s string) (int, bool) = script.Number
)

func TestP26_1Words(t *testing.T) {
	for line, want := range map[string][]string{
		"": nil, " ": nil, "    ": nil, "a": {"a"}, " a": {"a"}, "a ": {"a"}, "  a  ": {"a"}, "a b": {"a", "b"}, " a   b c ": {"a", "b", "c"}, "run 9": {"run", "9"},
		// Nothing but a blank parts words.
		"a\tb": {"a\tb"}, "\t": {"\t"}, "a\nb c": {"a\nb", "c"}, "\n": {"\n"}, "a\rb": {"a\rb"}, "a\u00a0b": {"a\u00a0b"}, "a\x00 b": {"a\x00", "b"}, "\v\f": {"\v\f"}, "a\u2003b\u3000c": {"a\u2003b\u3000c"},
		// Words are as they stand, whatever their bytes.
		"é ü": {"é", "ü"}, "\xff": {"\xff"}, "\xff \xfe\xfd": {"\xff", "\xfe\xfd"}, "\xe2\x82 \xac": {"\xe2\x82", "\xac"}, "\xc3\x20\xa9": {"\xc3", "\xa9"}, "€ \U0001f600": {"€", "\U0001f600"}, "\ufffd \ufffd": {"\ufffd", "\ufffd"},
		strings.Repeat(" a", 5000): slices.Repeat([]string{"a"}, 5000), strings.Repeat("a", 5000): {strings.Repeat("a", 5000)}, strings.Repeat(" ", 5000): nil,
	} {
		if got := script.Words(line); !slices.Equal(got, want) {
			t.Errorf("%.60q: %.60q", line, got)
		}
	}
}

func TestP26_1WordsOfAllLines(t *testing.T) {
	t.Parallel()
	proof.Texts(6, []string{" ", "a", "é", "\xff", "\t"}, func(line string) {
		want := slices.DeleteFunc(strings.Split(line, " "), func(word string) bool { return word == "" })
		if got := script.Words(line); !slices.Equal(got, want) {
			t.Errorf("%q: %q", line, got)
		}
	})
}

// What is answered is the caller's.
func TestP3Words(t *testing.T) {
	first, second := script.Words("a bc d"), script.Words("a bc d")
	if !proof.Apart(first, second) {
		t.Error("lists have memory in common")
	}
	proof.Spoil(first, "spoilt")
	if !slices.Equal(second, []string{"a", "bc", "d"}) || !slices.Equal(script.Words("a bc d"), second) {
		t.Error(second)
	}
}

func TestP26_1Number(t *testing.T) {
	for n := range 10000 {
		if got, is := script.Number(strconv.Itoa(n)); !is || got != n {
			t.Fatal(n, got, is)
		}
	}
	for _, s := range []string{"", " ", "00", "01", "0120", "000", "0000", "10000", "12345", "99999", "100000000000000000000", "-0", "-1", "-999", "+1", "+0", "a", "1a", "a1", " 1", "1 ", "1\n", "0x1", "1_0", "1e3", "1.0", "1,0", "٣", "１", "\xff", "1\x00", "true", "--1"} {
		if got, is := script.Number(s); is || got != 0 {
			t.Errorf("%q: %d", s, got)
		}
	}
}

func TestP26_1NumberOfAllTexts(t *testing.T) {
	t.Parallel()
	proof.Texts(5, []string{"0", "1", "9", "-", "+", " ", "x"}, func(s string) {
		isOne := len(s) >= 1 && len(s) <= 4 && strings.Trim(s, "0123456789") == "" && (s == "0" || s[0] != '0')
		want := 0
		if isOne {
			want, _ = strconv.Atoi(s)
		}
		if got, is := script.Number(s); is != isOne || got != want {
			t.Errorf("%q: %d, %v", s, got, is)
		}
	})
}
