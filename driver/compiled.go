package driver

import (
	"reticule/api"
	"reticule/clash"
	"reticule/gen"
	"reticule/norm"
	"reticule/prog"
	"reticule/typed"
)

// none is the place of an error that is nowhere in a text, or in a list.
const none = -1

// refusal is what is given up with: the error, and where.
type refusal struct {
	errno api.Errno
	at    int
}

// must gives up, if there is an error, with what it counts as, and where.
func must(wrong, as api.Errno, at int) {
	if wrong != api.OK {
		panic(refusal{as, at})
	}
}

// caught does f, and is with what that gave up; zero, if it did not.
func caught(f func()) (wrong refusal) {
	defer func() {
		if thrown := recover(); thrown != nil {
			wrong = thrown.(refusal) // what is no fault of what was handed in goes on as a panic
		}
	}()
	f()
	return refusal{}
}

// compiled are the program that a text says, and its code; it gives up, if the text is refused.
func compiled(text string) (api.Program, api.Code) {
	p, at, wrong := prog.Source(text)
	must(wrong, api.ErrSyntax, at)
	at, wrong = typed.Check(p)
	must(wrong, api.ErrType, at)
	at, wrong = clash.Check(p)
	must(wrong, api.ErrConflict, at)
	normal, wrong := norm.Normal(p)
	must(wrong, api.ErrSpace, none)
	c, wrong := gen.Compile(normal)
	must(wrong, api.ErrSpace, none)
	return p, c
}
