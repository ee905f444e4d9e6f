package script_test

import (
	"fmt"
	"strconv"
	"strings"
	"testing"

	"reticule/api"
	"reticule/driver"
	"reticule/ir"
	"reticule/norm"
	"reticule/prog"
	"reticule/proof"
	"reticule/script"
)

// model is what lines came to so far, reckoned plainly: lists of words, and what there is to be told of the last outcome.
type model struct {
	text, edges, seeds []string
	loads              [][]string
	workers            []string
	nodes              string
	shown              string
}

func newModel() *model { return &model{nodes: "1", workers: []string{"1"}, shown: "-"} }

// shapes are what words lines have behind the first one: N is a number, K any word; what is behind a star may be there any number of times, V is a value.
func shapes() map[string]string {
	return map[string]string{
		"text": "*K", "clear": "", "nodes": "N", "edge": "NN", "scalar": "K*V", "node": "K*V", "link": "K*V", "workers": "N*N", "seeds": "*N",
		"build": "", "run": "N", "means": "N", "code": "", "normal": "", "show": "",
	}
}

func isNumber(word string) bool {
	n, err := strconv.Atoi(word)
	return err == nil && strconv.Itoa(n) == word && n >= 0 && n <= 9999
}

func isValue(word string) bool {
	n, err := strconv.ParseInt(word, 10, 64)
	return err == nil && fmt.Sprint(n) == word
}

// fit tells whether words are of a shape.
func fit(words []string, shape string) bool {
	fixed, more, _ := strings.Cut(shape, "*")
	if len(words) < len(fixed) || more == "" && len(words) > len(fixed) {
		return false
	}
	for i, word := range words {
		letter := more
		if i < len(fixed) {
			letter = fixed[i : i+1]
		}
		if letter == "N" && !isNumber(word) || letter == "V" && !isValue(word) {
			return false
		}
	}
	return true
}

func number(word string) int {
	n, _ := strconv.Atoi(word)
	return n
}

func (m *model) job() driver.Job {
	j := driver.Job{Nodes: number(m.nodes)}
	for _, line := range m.text {
		j.Text += line + "\n"
	}
	for _, e := range m.edges {
		from, to, _ := strings.Cut(e, " ")
		j.Edges = append(j.Edges, api.Edge{From: number(from), To: number(to)})
	}
	for _, l := range m.loads {
		one := api.Load{Key: api.Key{Name: l[1], Side: map[string]api.Side{"scalar": api.Scalar, "node": api.OfNode, "link": api.OfEdge}[l[0]]}}
		for _, word := range l[2:] {
			one.Vals = append(one.Vals, api.Word(number(word)))
		}
		j.Loads = append(j.Loads, one)
	}
	return j
}

func (m *model) script() api.Script {
	s := api.Script{Workers: number(m.workers[0])}
	for _, word := range m.workers[1:] {
		s.By = append(s.By, number(word))
	}
	for _, word := range m.seeds {
		s.Seeds = append(s.Seeds, uint64(number(word)))
	}
	return s
}

func (m *model) outcome(o api.Outcome) string {
	var shown []string
	for _, l := range o.Out {
		shown = append(shown, l.Key.Name+":"+strings.ReplaceAll(strings.Trim(fmt.Sprint(l.Vals), "[]"), " ", ","))
	}
	m.shown = strings.Join(shown, " ")
	if m.shown == "" {
		m.shown = "-"
	}
	return fmt.Sprintf("%d %d %d", o.Errno, o.At, o.Steps)
}

// line is what a line answers.
func (m *model) line(words []string) string {
	shape, is := shapes()[words[0]]
	rest := words[1:]
	if !is || !fit(rest, shape) {
		return "word"
	}
	switch words[0] {
	case "text":
		m.text = append(m.text, strings.Join(rest, " "))
	case "clear":
		*m = *newModel()
	case "nodes":
		m.nodes = rest[0]
	case "edge":
		if len(m.edges) == 30 {
			return "word"
		}
		m.edges = append(m.edges, rest[0]+" "+rest[1])
	case "workers":
		m.workers = rest
	case "seeds":
		m.seeds = rest
	case "scalar", "node", "link":
		if len(m.loads) == 8 {
			return "word"
		}
		m.loads = append(m.loads, words)
	case "run", "means":
		if number(rest[0]) > 60 {
			return "word"
		}
		if words[0] == "means" {
			return m.outcome(driver.Means(m.job(), number(rest[0])))
		}
		return m.outcome(driver.Run(m.job(), m.script(), number(rest[0])))
	default:
		return m.told(words[0])
	}
	return "ok"
}

// told is what a line answers that changes nothing.
func (m *model) told(word string) string {
	text := m.job().Text
	c, at, wrong := driver.Build(text)
	p, _, unread := prog.Source(text)
	q, abnormal := norm.Normal(p)
	switch {
	case word == "show":
		return m.shown
	case word == "build":
		return fmt.Sprintf("%d %d %d", wrong, at, len(c.List))
	case word == "code" && wrong != api.OK:
		return fmt.Sprint(wrong)
	case word == "code":
		s, _ := ir.Print(c)
		return "0, " + strings.Join(strings.Split(strings.TrimSuffix(s, "\n"), "\n"), ", ")
	case unread != api.OK:
		return fmt.Sprint(unread)
	case abnormal != api.OK:
		return fmt.Sprint(abnormal)
	}
	s, _ := prog.Text(q)
	return "0 " + strings.Join(strings.Split(strings.TrimSuffix(s, "\n"), "\n"), " ")
}

// answers are those of lines.
func answers(lines []string) string {
	m, all := newModel(), ""
	for _, line := range lines {
		if words := strings.FieldsFunc(line, func(r rune) bool { return r == ' ' }); len(words) > 0 {
			all += m.line(words) + "\n"
		}
	}
	return all
}

func wantModel(t *testing.T, lines []string) {
	t.Helper()
	text := strings.Join(lines, "\n")
	if got, want := script.Run(text), answers(lines); got != want {
		t.Errorf("%q: %q, not %q", text, got, want)
	}
}

// base are lines by which there is something to be done.
func base() []string {
	return []string{
		"text (int k) (nint a) (eint w) (nint d)", "nodes 3", "edge 0 2", "edge 1 2", "scalar k 1", "workers 2 0 1", "seeds 3 8",
		"text (each (push a max in (+ (via w) k))) (bfs d k)", "run 40", "show",
	}
}

// more are lines of all kinds, and some that are none.
func more() []string {
	return []string{
		"", "  ", "text", "text (set k 1)", "text )", "clear", "nodes 2", "nodes 4", "nodes x", "edge 2 0", "edge 0 3", "edge 0", "scalar k 1", "scalar q0 1", "node a 1 2 3", "link w 5 -6", "link w 1 x",
		"workers 1", "workers 3 2 1 0", "workers 0", "workers", "seeds", "seeds 5 1", "seeds 1 -1", "build", "run 9", "run 60", "run 61", "means 9", "means 0", "code", "normal", "show", "hello", "show me",
	}
}

// All rows of up to two lines, alone and behind base; and each line behind each one of base, or instead of it.
func TestP26_1ByTheModel(t *testing.T) {
	t.Parallel()
	proof.Rows(2, more(), func(row []string) {
		wantModel(t, row)
		wantModel(t, append(append(base(), row...), "run 50", "show"))
	})
	for _, line := range more() {
		for at := range base() {
			lines := base()
			rest := append([]string{line, "build"}, lines[at+1:]...)
			wantModel(t, append(append(base()[:at], lines[at]), rest...))
			wantModel(t, append(base()[:at], rest...))
		}
	}
}

// The same of words that are left out, or are other ones.
func TestP26_1ByTheModelOfOtherWords(t *testing.T) {
	t.Parallel()
	words := []string{"", "0", "1", "01", "-1", "2", "60", "61", "9999", "10000", "k", "x y", "(int z)", "9223372036854775808"}
	for first := range shapes() {
		proof.Rows(3, words, func(row []string) {
			line := first + " " + strings.Join(row, " ")
			if len(row) == 3 && len(line)%4 != 0 {
				return
			}
			wantModel(t, []string{"text (int k)", line, "run 3", "show", "build"})
		})
	}
}
