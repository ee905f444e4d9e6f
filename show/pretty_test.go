package show

import (
	"strings"
	"testing"

	"reticule/api"
	"reticule/proof"
)

func TestP8_4Pretty(t *testing.T) {
	for text, want := range map[string]string{
		"": "", "a": "a\n", "-5": "-5\n", "a b": "a\nb\n", "()": "()\n", "(a)": "(a)\n", "(a b  1)": "(a b 1)\n", "() () a": "()\n()\na\n",
		"(a (b 1) ()) c":                    "(a\n  (b 1)\n  ())\nc\n",
		"(a (b (c)))":                       "(a\n  (b\n    (c)))\n",
		"(a b (c) d e)":                     "(a b\n  (c)\n  d\n  e)\n",
		"((a) b)":                           "(\n  (a)\n  b)\n",
		"(())":                              "(\n  ())\n",
		"(() ())":                           "(\n  ()\n  ())\n",
		"((()))":                            "(\n  (\n    ()))\n",
		"(((a) 1) (b))":                     "(\n  (\n    (a)\n    1)\n  (b))\n",
		"(a (b) c (d (e) f) (g h)) (i (j))": "(a\n  (b)\n  c\n  (d\n    (e)\n    f)\n  (g h))\n(i\n  (j))\n",
		"(int a) (set a (+ 1 2)) (while (< a 9) (set a (* a a)))": "(int a)\n(set a\n  (+ 1 2))\n(while\n  (< a 9)\n  (set a\n    (* a a)))\n",
	} {
		l, top := read(t, text)
		got, e := Pretty(l, top)
		wantText(t, text, got, e, want)
	}
	got, e := Pretty(nil, nil)
	wantText(t, "nothing", got, e, "")
}

func TestP8_4PrettyOfWhatIsNotRight(t *testing.T) {
	lists, tops := wrongs()
	for i := range lists {
		got, e := Pretty(lists[i], tops[i])
		wantNone(t, "Pretty", got, e, api.ErrForm)
	}
	got, e := Pretty(wide(400), []int{0})
	wantText(t, "400 forms", got, e, "(a"+strings.Repeat(" a", 398)+")\n")
}

func TestP8_4PrettyAsDeepAsMayBe(t *testing.T) {
	want := ""
	for deep := range 12 {
		if deep > 0 {
			want += "\n" + strings.Repeat(" ", 2*deep)
		}
		want += "("
	}
	got, e := Pretty(nested(12), []int{0})
	wantText(t, "12 brackets", got, e, want+strings.Repeat(")", 12)+"\n")
}

// layOut lays Print's text out: it goes from sign to sign, and asks of each bracket's blanks whether a bracket was seen in it.
func layOut(printed string) string {
	var out strings.Builder
	var seen []bool // of each bracket around: has it had a bracket in it?
	line := func() { out.WriteString("\n" + strings.Repeat(" ", 2*len(seen))) }
	for i := 0; i < len(printed); i++ {
		switch c := printed[i]; {
		case c == '(':
			first := i > 0 && printed[i-1] == '('
			if len(seen) > 0 {
				if first || !seen[len(seen)-1] {
					line()
				}
				seen[len(seen)-1] = true
			}
			seen = append(seen, false)
			out.WriteByte(c)
		case c == ')':
			seen = seen[:len(seen)-1]
			out.WriteByte(c)
		case c == ' ' && seen[len(seen)-1]:
			line()
		case c == ' ' && printed[i+1] == '(': // the bracket begins a line by itself
		default:
			out.WriteByte(c)
		}
	}
	return out.String()
}

func TestP8_4PrettyOfAllShortTexts(t *testing.T) {
	proof.Texts(6, pieces(), prettyIsLaidOut(t))
	proof.Texts(9, []string{"(", ")", " a"}, prettyIsLaidOut(t))
}

func prettyIsLaidOut(t *testing.T) func(string) {
	return func(text string) {
		l, top, is := formsOf(text)
		if !is {
			return
		}
		printed, _ := Print(l, top)
		got, e := Pretty(l, top)
		wantText(t, text, got, e, layOut(printed))
		if m, also, is := formsOf(got); !is || !Same(l, top, m, also) {
			t.Errorf("%q is not read back", got)
		}
	}
}
