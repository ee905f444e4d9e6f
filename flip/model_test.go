package flip_test

import (
	"slices"
	"strconv"
	"strings"
	"testing"

	"reticule/api"
	"reticule/flip"
	"reticule/prog"
	"reticule/proof"
)

// The calls have the signatures that the chapter lists.
var (
	_ func(p api.Program) (api.Program, api.Errno) = flip.Pushed
	_ func(p api.Program) (api.Program, api.Errno) = flip.Turned
	_ func(p api.Program) int                      = flip.Pulls
	_ func(p api.Program) int                      = flip.Bfs
	_ func(p api.Program) (api.Program, api.Errno) = flip.Split
)

func source(t *testing.T, text string) api.Program {
	t.Helper()
	p, at, e := prog.Source(text)
	if at != 0 || e != api.OK {
		t.Fatalf("%q is no program: %d, %d", text, at, e)
	}
	return p
}

func text(p api.Program) string {
	s, _ := prog.Text(p)
	return s
}

// programs does f with programs of all brackets that there are, that fit and do not, and with what comes of them by changes.
func programs(t *testing.T, f func(api.Program)) {
	t.Helper()
	found := 0
	for _, one := range append(proof.Sources(), proof.Running()...) {
		f(source(t, one))
		proof.Changed(one, []string{"(far ni)", "(farid)", "(+ (far nj) (farid))", "(own ni)", "(deg out)", "(deg in)", "in", "out", "pull", "push", "(pull ni + out (far nj))", "(pull nj max in (farid))", "(put nj (own ni))", "(put ni 1)", "(bfs ni 0)", "nj", "while"}, func(changed string) {
			if p, _, e := prog.Source(changed); e == api.OK {
				found++
				f(p)
			}
		})
	}
	if found < 2000 {
		t.Error("too few programs:", found)
	}
}

// model tells a program's forms anew, with some of their words changed, bracket by bracket: what the layer is held against.
type model struct {
	forms []api.Form
	// word is what a word of a bracket is, by the bracket's first word and its place within, and by the first words of the brackets around.
	word func(text, first string, i int, around []string) string
	// rows are the texts that a bracket is, of the texts of its parts; nil is one bracket of them.
	rows func(parts []string) []string
}

func (m model) all(p api.Program) string {
	l, top, e := prog.Write(p)
	if e != api.OK {
		return "no program"
	}
	m.forms = l
	var lines []string
	for _, at := range top {
		lines = append(lines, m.tell(at, nil)...)
	}
	return strings.Join(append(lines, ""), "\n")
}

func (m model) tell(at int, around []string) []string {
	f := m.forms[at]
	if f.Kind == api.Number {
		return []string{strconv.FormatInt(int64(f.Num), 10)}
	}
	first := ""
	if len(f.Kids) > 0 {
		first = m.forms[f.Kids[0]].Text
	}
	around = append(slices.Clone(around), first)
	var parts []string
	for i, kid := range f.Kids {
		if k := m.forms[kid]; k.Kind == api.Name {
			parts = append(parts, m.word(k.Text, first, i, around[:len(around)-1]))
		} else {
			parts = append(parts, m.tell(kid, around)...)
		}
	}
	if rows := m.rows(parts); rows != nil {
		return rows
	}
	return []string{"(" + strings.Join(parts, " ") + ")"}
}

func oneBracket([]string) []string { return nil }

func sameWord(text, first string, i int, around []string) string { return text }

func otherWay(way string) string {
	return map[string]string{"in": "out", "out": "in"}[way]
}

func pushed(text, first string, i int, around []string) string {
	isFar := slices.Contains(around, "pull") && i == 0
	switch {
	case first == "pull" && i == 0:
		return "push"
	case first == "pull" && i == 3:
		return otherWay(text)
	case isFar && text == "far":
		return "own"
	case isFar && text == "farid":
		return "id"
	}
	return text
}

func turned(text, first string, i int, around []string) string {
	if (first == "pull" || first == "push") && i == 3 || first == "deg" && i == 1 {
		return otherWay(text)
	}
	return text
}

// split are the brackets of regions of one act each; nil, if it is no region, or one that must stay.
func split(parts []string) []string {
	if len(parts) < 2 || parts[0] != "each" {
		return nil
	}
	var rows []string
	for i, act := range parts[1:] {
		for _, ahead := range parts[1 : i+1] {
			name := strings.Fields(ahead)[1]
			if strings.Contains(act, "(own "+name+")") || strings.Contains(act, "(far "+name+")") {
				return nil
			}
		}
		rows = append(rows, "(each "+act+")")
	}
	return rows
}

func wantProgram(t *testing.T, what string, p, got api.Program, wrong api.Errno, want string) {
	t.Helper()
	if wrong != api.OK || text(got) != want || !prog.Sound(got) {
		t.Errorf("%s of %s: %s, %d, not %s", what, text(p), text(got), wrong, want)
	}
}

func TestP16_1AndP16_6AgainstPlainTexts(t *testing.T) {
	changed := map[string]int{}
	programs(t, func(p api.Program) {
		same := text(p)
		want := model{word: pushed, rows: oneBracket}.all(p)
		got, wrong := flip.Pushed(p)
		wantProgram(t, "Pushed", p, got, wrong, want)
		if want != same {
			changed["Pushed"]++
		}
		if many := strings.Count(same, "(pull "); flip.Pulls(p) != many {
			t.Errorf("%s: %d pulls, not %d", same, flip.Pulls(p), many)
		}
		many := strings.Count(same, "(bfs ")
		if flip.Bfs(p) != many {
			t.Errorf("%s: %d levels, not %d", same, flip.Bfs(p), many)
		}
		want = model{word: turned, rows: oneBracket}.all(p)
		got, wrong = flip.Turned(p)
		if many > 0 {
			changed["levels"]++
			if wrong != api.ErrState || !prog.Same(got, api.Program{}) {
				t.Errorf("Turned of %s: %s, %d", same, text(got), wrong)
			}
		} else {
			wantProgram(t, "Turned", p, got, wrong, want)
		}
		if want != same {
			changed["Turned"]++
		}
		want = model{word: sameWord, rows: split}.all(p)
		got, wrong = flip.Split(p)
		wantProgram(t, "Split", p, got, wrong, want)
		if want != same {
			changed["Split"]++
		}
	})
	if changed["Pushed"] < 500 || changed["Turned"] < 500 || changed["Split"] < 500 || changed["levels"] < 300 {
		t.Error("too few programs:", changed)
	}
}
