package driver

import (
	"strconv"
	"strings"

	"reticule/api"
	"reticule/num"
	"reticule/scope"
)

// letters are those of the sides, each at its side.
const letters = " sne"

// Report is an outcome as text: a line of the whole, and a line of each column.
func Report(o api.Outcome) (string, api.Errno) {
	if o.Errno < api.OK || o.Errno > api.ErrCap || o.At < none || o.Steps < 0 {
		return "", api.ErrForm
	}
	var lines strings.Builder
	tell := func(words []string) { lines.WriteString(strings.Join(words, " ") + "\n") }
	tell([]string{strconv.Itoa(int(o.Errno)), strconv.Itoa(o.At), strconv.Itoa(o.Steps)})
	for _, l := range o.Out {
		if !isKey(l.Key) {
			return "", api.ErrForm
		}
		words := []string{l.Key.Name, letters[l.Key.Side : l.Key.Side+1]}
		for _, w := range l.Vals {
			words = append(words, num.Digits(w))
		}
		tell(words)
	}
	return lines.String(), api.OK
}

// isKey tells whether a key has a name and a side: whether it could be declared.
func isKey(k api.Key) bool {
	_, _, wrong := scope.Declared([]api.Decl{{Name: k.Name, Side: k.Side, Kind: api.Int}})
	return wrong == api.OK
}

// ReadReport is the outcome of a text.
func ReadReport(s string) (api.Outcome, api.Errno) {
	first, rest, _ := strings.Cut(s, "\n")
	o := whole(strings.Split(first, " "))
	for line := range strings.Lines(rest) {
		o.Out = append(o.Out, load(strings.Split(strings.TrimSuffix(line, "\n"), " ")))
	}
	// What lines say is guessed so far: it must be said so, and not otherwise.
	if again, wrong := Report(o); wrong != api.OK || again != s {
		return api.Outcome{}, api.ErrForm
	}
	return o, api.OK
}

// whole is an outcome, without columns, that words may say.
func whole(words []string) api.Outcome {
	var numbers [3]int
	for i := range min(len(words), len(numbers)) {
		numbers[i], _ = strconv.Atoi(words[i])
	}
	return api.Outcome{Errno: api.Errno(numbers[0]), At: numbers[1], Steps: numbers[2]}
}

// load are the values of a column that words, one or more, may say.
func load(words []string) api.Load {
	l := api.Load{Key: api.Key{Name: strings.Clone(words[0])}}
	if len(words) == 1 {
		return l
	}
	l.Key.Side = api.Side(strings.Index(letters, words[1]))
	for _, word := range words[2:] {
		w, _ := num.Parse(word)
		l.Vals = append(l.Vals, w)
	}
	return l
}
