package proof

import (
	"slices"
	"strings"

	"reticule/api"
)

// Bracket is a word, or, without one, a bracket of others.
type Bracket struct {
	Word  string
	Parts []Bracket
}

// Brackets are those of a text without remarks, in which each one is closed.
func Brackets(text string) []Bracket {
	open := [][]Bracket{nil}
	for _, word := range strings.Fields(strings.NewReplacer("(", " ( ", ")", " ) ").Replace(text)) {
		last := len(open) - 1
		switch word {
		case "(":
			open = append(open, nil)
		case ")":
			open[last-1] = append(open[last-1], Bracket{Parts: open[last]})
			open = open[:last]
		default:
			open[last] = append(open[last], Bracket{Word: word})
		}
	}
	return open[0]
}

// First is a bracket's first word; empty, if there is none.
func (b Bracket) First() string {
	if len(b.Parts) == 0 {
		return ""
	}
	return b.Parts[0].Word
}

func (b Bracket) String() string {
	if b.Word != "" {
		return b.Word
	}
	return "(" + Row(b.Parts) + ")"
}

// Row are brackets with blanks between.
func Row(l []Bracket) string {
	var texts []string
	for _, b := range l {
		texts = append(texts, b.String())
	}
	return strings.Join(texts, " ")
}

// Lines are brackets as programs are printed: each with a line feed behind.
func Lines(l []Bracket) string {
	text := ""
	for _, b := range l {
		text += b.String() + "\n"
	}
	return text
}

// Forms is how many brackets and words there are.
func Forms(l []Bracket) int {
	many := len(l)
	for _, b := range l {
		many += Forms(b.Parts)
	}
	return many
}

// Deep is how many brackets stand within one another at most.
func Deep(l []Bracket) int {
	most := 0
	for _, b := range l {
		if b.Word == "" {
			most = max(most, 1+Deep(b.Parts))
		}
	}
	return most
}

// Declares tells whether a bracket is a declaration.
func (b Bracket) Declares() bool {
	return slices.Contains(strings.Fields("int bool nint nbool eint ebool"), b.First())
}

// MayBe tells whether a program of these brackets has no more of anything than may be.
func MayBe(l []Bracket) bool {
	names := 0
	for _, b := range l {
		if b.Declares() {
			names++
		}
	}
	return names <= api.MaxNames && Forms(l) <= api.MaxForms && Deep(l) <= api.MaxDepth
}
