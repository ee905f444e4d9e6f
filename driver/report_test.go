package driver_test

import (
	"fmt"
	"math"
	"slices"
	"strings"
	"testing"

	"reticule/api"
	"reticule/driver"
	"reticule/plain"
	"reticule/proof"
)

// reports are outcomes and their texts.
func reports() map[string]api.Outcome {
	return map[string]api.Outcome{
		"0 0 0\n":   {},
		"12 -1 0\n": {Errno: api.ErrCap, At: -1},
		"1 0 7\n":   {Errno: api.ErrNil, Steps: 7},
		"0 9223372036854775807 9223372036854775807\n": {At: math.MaxInt, Steps: math.MaxInt},
		"0 0 3\nr s 1\nd n 1 0 -1\n":                  {Steps: 3, Out: []api.Load{load("r", api.Scalar, 1), load("d", api.OfNode, 1, 0, -1)}},
		"11 5 2\na s\na n\na e\n":                     {Errno: api.ErrGraph, At: 5, Steps: 2, Out: []api.Load{load("a", api.Scalar), load("a", api.OfNode), load("a", api.OfEdge)}},
		// Neither a key that is there twice, nor the order of keys, nor how many values there are is asked for.
		"0 0 0\nz e 0\na0b1c2d3 s 1 2 3\nz e 0\n":                      {Out: []api.Load{load("z", api.OfEdge, 0), load("a0b1c2d3", api.Scalar, 1, 2, 3), load("z", api.OfEdge, 0)}},
		"0 0 0\ntrue s -9223372036854775808 9223372036854775807 -10\n": {Out: []api.Load{load("true", api.Scalar, math.MinInt64, math.MaxInt64, -10)}},
		"0 0 0\n" + strings.Repeat("s s 5\n", 100):                     {Out: slices.Repeat([]api.Load{load("s", api.Scalar, 5)}, 100)},
		"0 0 0\nn n" + strings.Repeat(" 12", 999) + "\n":               {Out: []api.Load{load("n", api.OfNode, slices.Repeat([]api.Word{12}, 999)...)}},
	}
}

func TestP25_5ReportAndReadReport(t *testing.T) {
	for text, o := range reports() {
		if got, e := driver.Report(o); e != api.OK || got != text {
			t.Errorf("%v: %q, %d", o, got, e)
		}
		got, e := driver.ReadReport(text)
		if e != api.OK {
			t.Errorf("%q: %d", text, e)
		}
		wantOutcome(t, text, got, o)
	}
	for errno := api.OK; errno <= api.ErrCap; errno++ {
		text := fmt.Sprintf("%d 3 4\n", errno)
		if got, e := driver.Report(api.Outcome{Errno: errno, At: 3, Steps: 4}); e != api.OK || got != text {
			t.Errorf("%q, %d", got, e)
		}
		if got, e := driver.ReadReport(text); e != api.OK || got.Errno != errno || got.At != 3 || got.Steps != 4 {
			t.Errorf("%q: %v, %d", text, got, e)
		}
	}
}

func TestP25_5ReportOfWhatMayNotBe(t *testing.T) {
	for _, o := range []api.Outcome{
		{Errno: -1}, {Errno: api.ErrCap + 1}, {Errno: math.MaxInt}, {Errno: math.MinInt}, {At: -2}, {At: math.MinInt}, {Steps: -1}, {Steps: math.MinInt}, {Errno: -1, At: -2, Steps: -1},
		{Out: []api.Load{{}}},
	} {
		if got, e := driver.Report(o); got != "" || e != api.ErrForm {
			t.Errorf("%v: %q, %d", o, got, e)
		}
	}
	right := load("a", api.Scalar, 1)
	for _, k := range []api.Key{key("a", api.NoSide), key("a", 4), key("a", 255), key("", api.Scalar), key("A", api.Scalar), key("0a", api.Scalar), key("+", api.Scalar), key("a b", api.OfNode), key("a_", api.OfNode), key("a\n", api.OfEdge), key("\xff", api.OfEdge), key("é", api.OfEdge), key("abcdefghi", api.Scalar), key("-1", api.Scalar)} {
		wrong := api.Load{Key: k, Vals: []api.Word{1}}
		for _, out := range [][]api.Load{{wrong}, {right, wrong}, {wrong, right}, {right, right, {Key: k}}} {
			if got, e := driver.Report(api.Outcome{Out: out}); got != "" || e != api.ErrForm {
				t.Errorf("%v: %q, %d", out, got, e)
			}
		}
	}
}

// told tells a text's outcome, as the chapter says how it is written; false, if it is none.
func told(text string) bool {
	lines := strings.Split(text, "\n")
	if len(lines) < 2 || lines[len(lines)-1] != "" {
		return false
	}
	for i, line := range lines[:len(lines)-1] {
		words := strings.Split(line, " ")
		if i == 0 && (len(words) != 3 || !isDigits(words[0], 0, 12) || !isDigits(words[1], -1, math.MaxInt64) || !isDigits(words[2], 0, math.MaxInt64)) {
			return false
		}
		if i > 0 && (len(words) < 2 || !isName(words[0]) || !slices.Contains([]string{"s", "n", "e"}, words[1])) {
			return false
		}
		for _, word := range words[min(len(words), 2):] {
			if !isDigits(word, math.MinInt64, math.MaxInt64) {
				return false
			}
		}
	}
	return true
}

func isDigits(word string, least, most int64) bool {
	var n int64
	_, err := fmt.Sscanf(word, "%d", &n)
	return err == nil && fmt.Sprint(n) == word && least <= n && n <= most
}

func isName(word string) bool {
	return word != "" && len(word) <= 8 && 'a' <= word[0] && word[0] <= 'z' && strings.Trim(word, "abcdefghijklmnopqrstuvwxyz0123456789") == ""
}

func TestP25_5ReadReportOfOtherTexts(t *testing.T) {
	for what, texts := range map[string][]string{
		"no text":        {"", "\n", " ", "\n\n", "\x00", "\xff"},
		"a blank":        {"0  0 0\n", " 0 0 0\n", "0 0 0 \n", "0 0 0\n ", "0\t0 0\n", "0\u00a00 0\n", "0 0 0\na  s 1\n", "0 0 0\na s  1\n", "0 0 0\na s 1 \n", "0 0 0\n a s 1\n", "0 0 0\na s \n"},
		"a line's end":   {"0 0 0", "0 0 0\r\n", "0 0 0\n\n", "\n0 0 0\n", "0 0 0\na s", "0 0 0\na s 1", "0 0 0\n\na s 1\n", "0 0 0 a s 1\n", "0 0\n0\n", "0 0 0\na\ns\n", "0 0 0\na s 1\r\n"},
		"a nought ahead": {"00 0 0\n", "0 00 0\n", "0 0 01\n", "0 0 0\na s 01\n", "0 0 0\na s -01\n"},
		"a sign":         {"+0 0 0\n", "-0 0 0\n", "0 +1 0\n", "0 -0 0\n", "0 0 -0\n", "0 0 0\na s -0\n", "0 0 0\na s +1\n", "0 0 0\na s -\n"},
		"a number":       {"13 0 0\n", "-1 0 0\n", "0 -2 0\n", "0 0 -1\n", "x 0 0\n", "0 x 0\n", "0 0 x\n", "0 0 9223372036854775808\n", "0 9223372036854775808 0\n", "18446744073709551616 0 0\n", "0 0 0\na s x\n", "0 0 0\na s 1.0\n", "0 0 0\na s 0x1\n", "0 0 0\na s 1_0\n", "0 0 0\na s 9223372036854775808\n", "0 0 0\na s -9223372036854775809\n", "0 0 ٠\n", "0 0 0\na s ١\n"},
		"a name":         {"0 0 0\n s\n", "0 0 0\nA s\n", "0 0 0\n0 s\n", "0 0 0\nabcdefghi s\n", "0 0 0\na_ s\n", "0 0 0\n\xff s\n", "0 0 0\né s\n"},
		"a side":         {"0 0 0\na\n", "0 0 0\na x\n", "0 0 0\na S\n", "0 0 0\na sn\n", "0 0 0\na ne\n", "0 0 0\na 1\n", "0 0 0\na sne\n", "0 0 0\na 1 s\n", "0 0 0\ns a\n"},
		"too little":     {"0\n", "0 0\n", "0 0 \n", "a s 1\n", "0 0 0\na s 1\nb\n"},
		"too much":       {"0 0 0 0\n", "0 0 0 a\n", "0 0 0\n0 0 0\n", "0 0 0\na s n\n", "0 0 0\na s 1\n\x00"},
	} {
		for _, text := range texts {
			if o, e := driver.ReadReport(text); e != api.ErrForm || tell(o) != tell(api.Outcome{}) {
				t.Errorf("%s: %q: %v, %d", what, text, o, e)
			}
			if told(text) {
				t.Errorf("%q is told", text)
			}
		}
	}
}

// All texts of a few pieces, and those that come of others by one sign more, fewer, or another one.
func TestP25_5OfAllTexts(t *testing.T) {
	t.Parallel()
	right, wrong := 0, 0
	look := func(text string) {
		o, e := driver.ReadReport(text)
		if (e == api.OK) != told(text) || e != api.OK && e != api.ErrForm {
			t.Errorf("%q: %v, %d", text, o, e)
		}
		if e != api.OK {
			wrong++
			wantOutcome(t, text, o, api.Outcome{})
			return
		}
		right++
		if again, e := driver.Report(o); e != api.OK || again != text {
			t.Errorf("%q: %q, %d", text, again, e)
		}
	}
	proof.Texts(6, []string{"0", " ", "\n", "-", "a", "s"}, look)
	proof.Texts(5, []string{"0", " ", "\n", "a s", "b", "1"}, func(text string) { look("0 0 0\n" + text) })
	const signs = "\x00\n 01-+asnez\xff"
	for text := range reports() {
		for at := range min(len(text), 60) {
			look(text[:at])
			look(text[:at] + text[at+1:])
			for i := range len(signs) {
				look(text[:at] + signs[i:i+1] + text[at:])
				look(text[:at] + signs[i:i+1] + text[at+1:])
			}
		}
	}
	if right < 100 || wrong < 1000 {
		t.Error("too few:", right, wrong)
	}
}

// What comes out of jobs can be told, and read again.
func TestP25_5OfOutcomes(t *testing.T) {
	for at, text := range append(proof.Running(), "(set", "(set a 1)", "(int a) (int a)") {
		w := plain.Shapes()[at%len(plain.Shapes())]
		o := driver.Run(driver.Job{Text: text, Nodes: w.Nodes, Edges: w.Edges}, alone(), 60)
		s, e := driver.Report(o)
		again, also := driver.ReadReport(s)
		if e != api.OK || also != api.OK || !told(s) {
			t.Errorf("%s: %q, %d, %d", text, s, e, also)
		}
		wantOutcome(t, text, again, o)
	}
}
