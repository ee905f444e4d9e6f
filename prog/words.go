package prog

import (
	"strings"

	"reticule/api"
	"reticule/lex"
)

// The parts of brackets behind their first words, as letters of which a shape is a row.
const (
	aName   = 'n'
	anOp    = 'o' // an operation that can take in many
	aWay    = 'w' // out or in
	aValue  = 'e' // E
	aCond   = 'c' // Cond: it may be missing
	theActs = 'a' // acts, up to the end
	aThen   = 't' // a bracket of statements: Then
	anElse  = 'f' // a bracket of statements: Else
	theRest = 's' // statements, up to the end: Then
)

// shape is a bracket's first word, and the letters of its parts; what is no bracket has no word.
type shape struct{ word, parts string }

// has tells whether a bracket has a part.
func (s shape) has(part rune) bool { return strings.ContainsRune(s.parts, part) }

// nth is the part as which the form at place i behind the word is read: those that go on up to the end are the last ones.
func (s shape) nth(i int) rune { return rune(s.parts[min(i, len(s.parts)-1)]) }

// fits tells whether a bracket can have so many forms behind its word.
func (s shape) fits(many int) bool {
	least, most := 0, 0
	for _, part := range s.parts {
		switch part {
		case aCond:
			most++
		case theActs:
			least++
			most += api.MaxActs
		case theRest:
			most += api.MaxForms
		default:
			least++
			most++
		}
	}
	return least <= many && many <= most
}

func declShape(side api.Side, kind api.Kind) shape {
	sides := [...]string{api.Scalar: "", api.OfNode: "n", api.OfEdge: "e"}
	kinds := [...]string{api.Int: "int", api.Bool: "bool"}
	if side < api.Scalar || side > api.OfEdge || kind < api.Int || kind > api.Bool {
		return shape{}
	}
	return shape{sides[side] + kinds[kind], "n"}
}

func stmtShape(kind api.StmtKind) shape {
	switch kind {
	case api.SetIt:
		return shape{"set", "ne"}
	case api.FoldIt:
		return shape{"fold", "noec"}
	case api.EachIt:
		return shape{"each", "a"}
	case api.IfIt:
		return shape{"if", "etf"}
	case api.WhileIt:
		return shape{"while", "es"}
	case api.LoopIt:
		return shape{"loop", "es"}
	case api.BfsIt:
		return shape{"bfs", "nes"}
	}
	return shape{}
}

func actShape(kind api.ActKind) shape {
	switch kind {
	case api.PutIt:
		return shape{"put", "nec"}
	case api.PushIt:
		return shape{"push", "nowec"}
	case api.PullIt:
		return shape{"pull", "nowe"}
	}
	return shape{}
}

// exprShape is that of expressions but Call, whose words are the operations'.
func exprShape(kind api.ExprKind) shape {
	switch kind {
	case api.Own:
		return shape{"own", "n"}
	case api.Far:
		return shape{"far", "n"}
	case api.Via:
		return shape{"via", "n"}
	case api.Id:
		return shape{"id", ""}
	case api.FarId:
		return shape{"farid", ""}
	case api.Deg:
		return shape{"deg", "w"}
	case api.Count:
		return shape{"count", ""}
	}
	return shape{}
}

// opWords are the operations' words, each at its operation.
func opWords() [api.LastOp + 1]string {
	return [...]string{"", "+", "-", "*", "/", "%", "min", "max", "shl", "shr", "&", "|", "^", "=", "<", "not", "and", "or", "if", "narrow"}
}

// byWord are the kinds up to the last one that have a word, by their words.
func byWord[K ~uint8](last K, wordOf func(K) string) map[string]K {
	all := map[string]K{}
	for kind := K(1); kind <= last; kind++ {
		if word := wordOf(kind); word != "" {
			all[word] = kind
		}
	}
	return all
}

// vocabulary are the first words of brackets, by what the brackets can be.
type vocabulary struct {
	decls map[string]api.Decl // without a name
	stmts map[string]api.StmtKind
	acts  map[string]api.ActKind
	exprs map[string]api.ExprKind
	ops   map[string]api.Op
}

func words() vocabulary {
	v := vocabulary{
		decls: map[string]api.Decl{},
		stmts: byWord(api.BfsIt, func(kind api.StmtKind) string { return stmtShape(kind).word }),
		acts:  byWord(api.PullIt, func(kind api.ActKind) string { return actShape(kind).word }),
		exprs: byWord(api.Call, func(kind api.ExprKind) string { return exprShape(kind).word }),
		ops:   byWord(api.LastOp, OpWord),
	}
	for side := api.Scalar; side <= api.OfEdge; side++ {
		for kind := api.Int; kind <= api.Bool; kind++ {
			v.decls[declShape(side, kind).word] = api.Decl{Side: side, Kind: kind}
		}
	}
	return v
}

// Words that are no first ones.
const (
	yes     = "true"
	no      = "false"
	leaving = "out"
	coming  = "in"
)

func isName(word string) bool {
	return word != "" && 'a' <= word[0] && word[0] <= 'z' && lex.WordKind(word) == api.Name
}
