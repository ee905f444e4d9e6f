package tree

import (
	"strings"

	"reticule/api"
)

// fault is what reading tokens is given up with: an error, and where.
type fault struct {
	at    int
	errno api.Errno
}

// reader is how far tokens have been read.
type reader struct {
	forms []api.Form
	top   []int
	open  []int // the places of brackets that are not closed yet, the innermost last
}

// Parse are the forms that tokens say, and the places of the uppermost ones; or an error, and where.
func Parse(l []api.Token) ([]api.Form, []int, int, api.Errno) {
	r, wrong := read(l)
	if wrong.errno != api.OK {
		return nil, nil, wrong.at, wrong.errno
	}
	return r.forms, r.top, 0, api.OK
}

func read(l []api.Token) (r reader, wrong fault) {
	defer func() {
		if thrown := recover(); thrown != nil {
			wrong = thrown.(fault) // what is no fault of the tokens goes on as a panic
		}
	}()
	for _, token := range l {
		r.take(token)
	}
	r.end()
	return r, wrong
}

func (r *reader) take(token api.Token) {
	switch token.Kind {
	case api.Open:
		if len(r.open) == api.MaxDepth {
			panic(fault{token.At, api.ErrSpace})
		}
		r.open = append(r.open, r.add(api.Form{Kind: api.Open, At: token.At}))
	case api.Close:
		if len(r.open) == 0 {
			panic(fault{token.At, api.ErrSyntax})
		}
		r.open = r.open[:len(r.open)-1]
	case api.Name:
		r.add(api.Form{Kind: api.Name, Text: strings.Clone(token.Text), At: token.At})
	case api.Number:
		r.add(api.Form{Kind: api.Number, Num: token.Num, At: token.At})
	}
}

// add puts a form behind all others, into the innermost bracket that is open, and answers its place.
func (r *reader) add(form api.Form) int {
	place := len(r.forms)
	if place == api.MaxForms {
		panic(fault{form.At, api.ErrSpace})
	}
	if len(r.open) == 0 {
		r.top = append(r.top, place)
	} else {
		around := &r.forms[r.innermost()]
		around.Kids = append(around.Kids, place)
	}
	r.forms = append(r.forms, form)
	return place
}

func (r *reader) innermost() int { return r.open[len(r.open)-1] }

func (r *reader) end() {
	if len(r.open) > 0 {
		panic(fault{r.forms[r.innermost()].At, api.ErrSyntax})
	}
}
