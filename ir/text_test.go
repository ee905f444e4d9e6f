package ir_test

import (
	"slices"
	"strings"
	"testing"

	"reticule/api"
	"reticule/ir"
)

func TestP19_2AndP19_5PrintAndParse(t *testing.T) {
	for text, want := range map[string]string{
		"stop 0 0": "0 stop\n", "jump 0 0": "0 jump 0\n", "set 0 0; stop 0 0": "0 set 0\n1 stop\n", "fold 1 0; stop 0 0": "0 fold 1\n1 stop\n", "send 5 0; take 5 0; stop 0 0": "0 send 5\n1 take 5\n2 stop\n",
		"unless 2 1; stop 0 0": "0 unless 2 1\n1 stop\n", "unless 4 0; jump 0 1": "0 unless 4 0\n1 jump 1\n", "stop 0 0; stop 0 0": "0 stop\n1 stop\n",
		"set 0 0; fold 1 0; send 3 0; take 3 0; unless 2 1; jump 0 0; stop 0 0": "0 set 0\n1 fold 1\n2 send 3\n3 take 3\n4 unless 2 1\n5 jump 0\n6 stop\n",
	} {
		c := code(t, text)
		if got, e := ir.Print(c); got != want || e != api.OK {
			t.Errorf("%s: %q, %d", text, got, e)
		}
		if d, e := ir.Parse(c.Program, want); e != api.OK || !ir.Same(c, d) {
			t.Errorf("%q: %v, %d", want, d, e)
		}
	}
}

// Places of two and three digits, of instructions and of statements.
func TestP19_2AndP19_5LongCode(t *testing.T) {
	p := source(t, "(int i)"+strings.Repeat("(set i 1)", 70)+"(while true)")
	c := api.Code{Program: p}
	want := ""
	for at := range 98 {
		c.List = append(c.List, api.Instr{Kind: api.SetInstr, At: 60})
		want += []string{"", "1", "2", "3", "4", "5", "6", "7", "8", "9"}[at/10] + string(rune('0'+at%10)) + " set 60\n"
	}
	c.List = append(c.List, instrs("unless 70 0; unless 70 102; set 9 0; jump 0 99; stop 0 0")...)
	want += "98 unless 70 0\n99 unless 70 102\n100 set 9\n101 jump 99\n102 stop\n"
	if got, e := ir.Print(c); got != want || e != api.OK {
		t.Errorf("%q, %d", got, e)
	}
	if d, e := ir.Parse(p, want); e != api.OK || !ir.Same(c, d) {
		t.Errorf("%v, %d", d, e)
	}
	most := strings.Builder{}
	for at := range api.MaxCode {
		most.WriteString(itoa(at) + " stop\n")
	}
	if d, e := ir.Parse(p, most.String()); e != api.OK || !slices.Equal(d.List, slices.Repeat(instrs("stop 0 0"), api.MaxCode)) {
		t.Error(e)
	}
	if d, e := ir.Parse(p, most.String()+"300 stop\n"); e != api.ErrForm || !isEmpty(d) {
		t.Error(e)
	}
	c.List = slices.Repeat(instrs("stop 0 0"), api.MaxCode)
	if got, e := ir.Print(c); got != most.String() || e != api.OK {
		t.Error(e)
	}
	c.List = slices.Repeat(instrs("stop 0 0"), api.MaxCode+1)
	if got, e := ir.Print(c); got != "" || e != api.ErrForm {
		t.Error(e)
	}
}

func itoa(n int) string {
	if n < 10 {
		return string(rune('0' + n))
	}
	return itoa(n/10) + itoa(n%10)
}

func TestP19_2PrintOfWhatMayNotBeRun(t *testing.T) {
	for _, text := range []string{"set 0 0", "set 1 0; stop 0 0", "set 0 1; stop 0 0", "send 3 0; stop 0 0", "take 3 0; stop 0 0", "jump 0 1", "none 0 0; stop 0 0", "eight 0 0; stop 0 0", "jump 1 0", "stop 1 0", "stop 0 1", "unless 2 5; stop 0 0"} {
		if got, e := ir.Print(code(t, text)); got != "" || e != api.ErrForm {
			t.Errorf("%s: %q, %d", text, got, e)
		}
	}
	for _, c := range []api.Code{{}, {Program: source(t, several)}, {Program: source(t, "(loop true)"), List: instrs("stop 0 0")}, {Program: source(t, "(set a 1)"), List: instrs("stop 0 0")}, {Program: source(t, "(nint a) (each (put a 1) (put a 1))"), List: instrs("stop 0 0")}} {
		if got, e := ir.Print(c); got != "" || e != api.ErrForm {
			t.Errorf("%v: %q, %d", c, got, e)
		}
	}
}

const printed = "0 set 0\n1 fold 1\n2 send 3\n3 take 3\n4 unless 2 1\n5 jump 10\n6 send 5\n7 take 5\n8 unless 4 0\n9 stop\n10 jump 8\n"

func TestP19_5ParseOfOtherTexts(t *testing.T) {
	p := source(t, several)
	if c, e := ir.Parse(p, printed); e != api.OK || len(c.List) != 11 {
		t.Fatal(c, e)
	}
	for what, texts := range map[string][]string{
		"no text":           {"", "\n", " ", "\n\n", "\x00"},
		"a blank":           {"0  stop\n", " 0 stop\n", "0 stop \n", "0 stop\n ", "0stop\n", "0\tstop\n", "0\u00a0stop\n", "0 set  0\n1 stop\n", "0 set 0 \n1 stop\n", "0 unless 2 1 \n1 stop\n", "0 unless 2  1\n1 stop\n", "0 unless 21\n1 stop\n"},
		"a line's end":      {"0 stop", "0 stop\r\n", "0 stop\n\n", "\n0 stop\n", "0 set 0\n\n1 stop\n", "0 set 0 1 stop\n", "0 set 0\n1 stop", "0 set\n0\n1 stop\n", "0 stop\n\x00", "0 stop\v", "0 stop\r"},
		"a nought ahead":    {"00 stop\n", "0 set 00\n1 stop\n", "0 set 0\n01 stop\n", "0 unless 02 1\n1 stop\n", "0 unless 2 01\n1 stop\n", "0 jump 00\n"},
		"a sign":            {"+0 stop\n", "-0 stop\n", "0 set +0\n1 stop\n", "0 set -0\n1 stop\n", "0 unless 2 +1\n1 stop\n", "0 jump -0\n", "0 jump -1\n", "0 jump +0\n"},
		"a number":          {"1 stop\n", "0 stop\n0 stop\n", "0 stop\n2 stop\n", "0 set 1\n1 stop\n", "0 jump 1\n", "0 jump 0x0\n", "0 jump 0_0\n", "0 jump 1e0\n", "0 jump 99999999999999999999\n", "0 jump \n", "0 unless 2 2\n1 stop\n", "0 unless 3 1\n1 stop\n", "0 set 99999999999999999999\n1 stop\n", "0 set 18446744073709551616\n1 stop\n", "x stop\n", "0.0 stop\n", "٠ stop\n"},
		"a word":            {"0 halt\n", "0 Stop\n", "0 STOP\n", "0 stops\n", "0 sto\n", "0 none\n", "0 eight\n", "0 put 0\n1 stop\n", "0 fold 0\n1 stop\n", "0 set 1\n1 stop\n", "stop\n", "0\n", "0 \n", "0 6\n", "stop 0\n"},
		"too little":        {"0 set\n1 stop\n", "0 unless 2\n1 stop\n", "0 unless\n1 stop\n", "0 jump\n", "0 send\n1 take\n2 stop\n"},
		"too much":          {"0 stop 0\n", "0 stop 0 0\n", "0 jump 0 0\n", "0 set 0 0\n1 stop\n", "0 unless 2 1 0\n1 stop\n", "0 send 3 0\n1 take 3\n2 stop\n", "0 stop stop\n", "0 stop; \n"},
		"a line too few":    {"0 set 0\n", "0 send 3\n1 stop\n", "0 take 3\n1 stop\n", "1 stop\n", strings.TrimSuffix(printed, "10 jump 8\n"), strings.TrimPrefix(printed, "0 set 0\n"), strings.Replace(printed, "3 take 3\n", "", 1), strings.Replace(printed, "6 send 5\n", "", 1)},
		"a line too many":   {printed + "11 set 0\n", printed + "12 stop\n", printed + "0 set 0\n", "0 set 0\n" + printed, printed + printed, printed + "\n", printed + "11\n"},
		"what may not run":  {"0 jump 2\n1 send 3\n2 take 3\n3 stop\n", "0 send 3\n1 take 5\n2 stop\n", "0 send 3\n1 take 3\n", "0 unless 4 0\n", "0 fold 1\n", "0 set 2\n1 stop\n"},
		"signs of any kind": {"0 st\xffop\n", "\xff", "0 stop\n\xff", "\ufeff0 stop\n", "0 stоp\n", "(set a 1)"},
	} {
		for _, text := range texts {
			if c, e := ir.Parse(p, text); e != api.ErrForm || !isEmpty(c) {
				t.Errorf("%s: %q: %v, %d", what, text, c, e)
			}
		}
	}
	// What may be: one line more, and one word other.
	for _, text := range []string{printed + "11 stop\n", printed + "11 jump 0\n", strings.Replace(printed, "9 stop", "9 jump 0", 1), strings.Replace(printed, "unless 2", "unless 4", 1)} {
		if c, e := ir.Parse(p, text); e != api.OK || plainPrint(c.List) != text {
			t.Errorf("%q: %v, %d", text, c, e)
		}
	}
}

// Whatever text there is: it is Print of what comes out, or there is none.
func TestP19_5ParseTakesPrintAlone(t *testing.T) {
	t.Parallel()
	p := source(t, several)
	right, wrong := 0, 0
	try := func(text string) {
		c, e := ir.Parse(p, text)
		if e == api.OK {
			right++
			if check(c) != (told{0, api.OK}) || plainPrint(c.List) != text {
				t.Fatalf("%q: %v", text, c.List)
			}
			return
		}
		wrong++
		if e != api.ErrForm || !isEmpty(c) {
			t.Fatalf("%q: %v, %d", text, c, e)
		}
	}
	for at := range len(printed) + 1 {
		for sign := range 128 {
			try(printed[:at] + string(rune(sign)) + printed[at:])
			if at < len(printed) {
				try(printed[:at] + string(rune(sign)) + printed[at+1:])
			}
		}
		for end := at; end <= len(printed); end++ {
			try(printed[:at] + printed[end:])
		}
	}
	if right < 50 || wrong < 20000 {
		t.Error(right, wrong)
	}
}

// Programs that may have no code, and whose code a text is.
func TestP19_5ParseOfPrograms(t *testing.T) {
	for text, want := range map[string]api.Errno{
		"": api.OK, "(int a)": api.OK, "(int a) (set a 1)": api.OK, "(while true)": api.OK,
		"(loop true)": api.ErrForm, "(nint a) (bfs a 0)": api.ErrForm, "(nint a) (each (pull a + in 1))": api.ErrForm, "(set a 1)": api.ErrForm, "(int a) (set a true)": api.ErrForm, "(nint a) (each (put a 1) (push a + out 1))": api.ErrForm,
	} {
		p := source(t, text)
		c, e := ir.Parse(p, "0 stop\n")
		if e != want || e == api.OK && !ir.Same(c, api.Code{Program: p, List: instrs("stop 0 0")}) || e != api.OK && !isEmpty(c) {
			t.Errorf("%s: %v, %d", text, c, e)
		}
	}
	for text, want := range map[string]api.Errno{"(int a) (set a 1)": api.OK, "(int a) (fold a + 1)": api.ErrForm, "(int a)": api.ErrForm, "(int a) (while true (set a 1))": api.OK, "(while true) (while true)": api.ErrForm} {
		if c, e := ir.Parse(source(t, text), "0 set 0\n1 stop\n"); e != want || (e == api.OK) == isEmpty(c) {
			t.Errorf("%s: %v, %d", text, c, e)
		}
	}
}
