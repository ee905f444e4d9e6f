package driver_test

import (
	"strings"
	"testing"

	"reticule/api"
	"reticule/driver"
	"reticule/ir"
	"reticule/norm"
	"reticule/prog"
	"reticule/proof"
)

func wantRefused(t *testing.T, text string, at int, wrong api.Errno) {
	t.Helper()
	c, gotAt, got := driver.Build(text)
	if gotAt != at || got != wrong || len(c.List) != 0 || !prog.Same(c.Program, api.Program{}) {
		t.Errorf("%.60q: %v, %d, %d, not %d, %d", text, c, gotAt, got, at, wrong)
	}
}

func TestP25_1BuildIsRefused(t *testing.T) {
	for text, want := range map[string]struct {
		at    int
		wrong api.Errno
	}{
		"(set":                      {0, api.ErrSyntax},
		"(int a) (set a":            {8, api.ErrSyntax},
		")":                         {0, api.ErrSyntax},
		"a":                         {0, api.ErrSyntax},
		"  (int A)":                 {7, api.ErrSyntax},
		"(int a) (set a 1) (int b)": {18, api.ErrSyntax},
		"(int a) (set a (foo 1))":   {15, api.ErrSyntax},
		"\xff":                      {0, api.ErrSyntax},

		"(set a 1)":                                {0, api.ErrType},
		"(int a) (int a)":                          {-1, api.ErrType},
		"(int a) (set a true)":                     {0, api.ErrType},
		"(int a) (set a 1) (set a true)":           {1, api.ErrType},
		"(int a) (while true (set a 1) (set b 1))": {1, api.ErrType},
		"(int a) (while 1 (set a 1))":              {1, api.ErrType},
		"(nint a) (set a 1)":                       {0, api.ErrType},

		"(nint a) (each (put a 1) (put a 2))":                                {0, api.ErrConflict},
		"(nint a) (each (put a 1) (push a + out 1))":                         {0, api.ErrConflict},
		"(nint a) (each (put a 1)) (each (push a + in 1) (pull a max in 1))": {1, api.ErrConflict},
		"(nint a) (while true (each (put a 1)) (each (put a 2) (put a 2)))":  {1, api.ErrConflict},

		// Of several errors the one that is named first, wherever it stands.
		"(set a 1) )": {10, api.ErrSyntax},
		"(nint a) (each (put a 1) (put a 2)) (set b 1)":       {1, api.ErrType},
		"(nint a) (nint a) (each (put a 1) (put a 2))":        {-1, api.ErrType},
		"(nint a) (each (put a 1) (put a 2)) (set b 1) (set)": {46, api.ErrSyntax},
	} {
		wantRefused(t, text, want.at, want.wrong)
	}
}

// What passes a limit of texts and brackets is ErrSyntax, at its place.
func TestP25_1AndE4LimitsOfTexts(t *testing.T) {
	const deep = "(int a)(set a"
	names := ""
	for i := range api.MaxNames {
		names += "(int a" + string(rune('a'+i)) + ")"
	}
	for _, c := range []struct {
		right, wrong string
		at           int
	}{
		{strings.Repeat(" ", api.MaxText), strings.Repeat(" ", api.MaxText+1), 0},
		{"(int a)" + strings.Repeat(" ", api.MaxText-7), "(int a)" + strings.Repeat(" ", api.MaxText-6), 0},
		{deep + strings.Repeat("(+ 1 ", 11) + "1" + strings.Repeat(")", 12), deep + strings.Repeat("(+ 1 ", 12) + "1" + strings.Repeat(")", 13), 13 + 5*11},
		{names, names + "(int b)", len(names)},
		{"(int a)" + strings.Repeat("(set a 1)", 99), "(int a)" + strings.Repeat("(set a 1)", 100), 7 + 9*99 + 1},
		{"(int a)" + strings.Repeat("(set a(+ 1 1))", 56) + "(set a 0)", "(int a)" + strings.Repeat("(set a(+ 1 1))", 56) + "(set a(- 0 0))", 7 + 14*56 + 9},
	} {
		if _, at, e := driver.Build(c.right); e != api.OK || at != 0 {
			t.Errorf("%.60q: %d, %d", c.right, at, e)
		}
		wantRefused(t, c.wrong, c.at, api.ErrSyntax)
	}
}

// What has no normal form is ErrSpace, at -1: names, brackets within brackets, or forms are too many.
func TestP25_1AndE4NoRoomForTheNormalForm(t *testing.T) {
	names := "(nint d)"
	for i := range api.MaxNames - 5 {
		names += "(int a" + string(rune('a'+i)) + ")"
	}
	ifs := func(n int, inside string) string {
		return "(nint d)" + strings.Repeat("(if true (", n) + inside + strings.Repeat(") ())", n)
	}
	loops := func(n int) string {
		return "(int a)" + strings.Repeat("(loop false ", n) + "(set a 1)" + strings.Repeat(")", n)
	}
	for _, c := range []struct{ right, wrong string }{
		{names + "(bfs d 0)", names + "(int b)(bfs d 0)"},
		{names + "(int b)", names + "(int b)(bfs d 0)"},
		{ifs(3, "(bfs d 0)"), ifs(4, "(bfs d 0)")},
		{ifs(4, "(each (put d 0))"), ifs(4, "(bfs d 0)")},
		{loops(5), loops(7)},
		{"(nint d)(bfs d 0)(bfs d 0)(bfs d 0)", "(nint d)(bfs d 0)(bfs d 0)(bfs d 0)(bfs d 0)"},
	} {
		if _, at, e := driver.Build(c.right); e != api.OK || at != 0 {
			t.Errorf("%.60q: %d, %d", c.right, at, e)
		}
		if _, e := norm.Normal(source(t, c.wrong)); e != api.ErrSpace {
			t.Fatalf("%.60q has a normal form", c.wrong)
		}
		wantRefused(t, c.wrong, -1, api.ErrSpace)
	}
	// All else is looked at ahead.
	wantRefused(t, ifs(4, "(bfs d 0) (each (put d 1) (put d 2))"), 1, api.ErrConflict)
	wantRefused(t, ifs(4, "(bfs d true)"), 0, api.ErrType)
	wantRefused(t, ifs(4, "(bfs d 0)")+")", len(ifs(4, "(bfs d 0)")), api.ErrSyntax)
}

func TestP25_1CodeOfTexts(t *testing.T) {
	for text, want := range map[string]string{
		"":                                 "0 stop\n",
		" ; a remark":                      "0 stop\n",
		"(int a)":                          "0 stop\n",
		"(int a) (set a 3)":                "0 set 0\n1 stop\n",
		"(while true)":                     "0 unless 0 2\n1 jump 0\n2 stop\n",
		"(int a) (fold a + 1)":             "0 fold 0\n1 stop\n",
		"(nint a) (each (pull a + out 1))": "0 send 0\n1 take 0\n2 stop\n",
		"(int a) (if false ((set a 1)) ((set a 2) (set a 3)))": "0 unless 3 3\n1 set 0\n2 jump 5\n3 set 1\n4 set 2\n5 stop\n",
		"(int a) (loop (< a 3) (set a (+ a 1)))":               "0 set 0\n1 unless 2 4\n2 set 1\n3 jump 1\n4 stop\n",
	} {
		c, at, e := driver.Build(text)
		got, _ := ir.Print(c)
		if at != 0 || e != api.OK || got != want {
			t.Errorf("%q: %q, %d, %d", text, got, at, e)
		}
	}
	// The code's program is the normal one.
	c, _, _ := driver.Build("(nint a) (nint d) (each (pull a + out (far d)))")
	if text, _ := prog.Text(c.Program); text != "(nint a)\n(nint d)\n(each (push a + in (own d)))\n" {
		t.Errorf("%q", text)
	}
}

// The same of all texts that come of others by a word or bracket more, fewer, or another one, held against the layers.
func TestP25_1OfChangedTexts(t *testing.T) {
	t.Parallel()
	many := map[api.Errno]int{}
	look := func(text string) {
		c, at, e := driver.Build(text)
		want, wantAt, wantE := built(text)
		if at != wantAt || e != wantE || !ir.Same(c, want) {
			t.Errorf("%q: %v, %d, %d, not %v, %d, %d", text, c, at, e, want, wantAt, wantE)
		}
		many[e]++
	}
	for i, text := range append(proof.Running(), proof.Sources()...) {
		look(text)
		if i%3 == 0 {
			proof.Changed(text, []string{"i", "(", "true"}, look)
		}
	}
	for _, text := range []string{"(nint a) (each (put a 1) (push b + out 1)) (bfs a 0)", "(nint a) (nint b) (each (push a max out 1) (push b + out 1))"} {
		proof.Changed(text, []string{"a", "b", "+", "max", "(put a 1)"}, look)
	}
	if many[api.OK] < 50 || many[api.ErrSyntax] < 500 || many[api.ErrType] < 50 || many[api.ErrConflict] < 5 {
		t.Error("too few:", many)
	}
}
