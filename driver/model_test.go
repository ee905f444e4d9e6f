package driver_test

import (
	"cmp"
	"fmt"
	"slices"
	"strings"
	"testing"

	"reticule/api"
	"reticule/clash"
	"reticule/driver"
	"reticule/gen"
	"reticule/norm"
	"reticule/plain"
	"reticule/prog"
	"reticule/typed"
)

// The calls have the signatures that the chapter lists.
var (
	_ func(j driver.Job, s api.Script, most int) api.Outcome = driver.Run
	_ func(text string) (api.Code, int, api.Errno)           = driver.Build
	_ func(j driver.Job, fuel int) api.Outcome               = driver.Means
	_ func(o api.Outcome) (string, api.Errno)                = driver.Report
	_ func(s string) (api.Outcome, api.Errno)                = driver.ReadReport
	_                                                        = driver.Job{Text: "", Nodes: 0, Edges: []api.Edge{}, Loads: []api.Load{}}
)

// alone is the script of one worker.
func alone() api.Script { return api.Script{Workers: 1} }

// ample is more than any program of the tests takes that ends.
const ample = api.MaxSteps

func source(t *testing.T, text string) api.Program {
	t.Helper()
	p, at, e := prog.Source(text)
	if at != 0 || e != api.OK {
		t.Fatalf("%q is no program: %d, %d", text, at, e)
	}
	return p
}

// built is what Build must answer, layer by layer.
func built(text string) (api.Code, int, api.Errno) {
	p, at, e := prog.Source(text)
	if e != api.OK {
		return api.Code{}, at, api.ErrSyntax
	}
	if at, e := typed.Check(p); e != api.OK {
		return api.Code{}, at, api.ErrType
	}
	if at, e := clash.Check(p); e != api.OK {
		return api.Code{}, at, api.ErrConflict
	}
	q, e := norm.Normal(p)
	if e != api.OK {
		return api.Code{}, -1, api.ErrSpace
	}
	c, e := gen.Compile(q)
	if e != api.OK {
		return api.Code{}, -1, api.ErrSpace
	}
	return c, 0, api.OK
}

// jobOf is a text over a world: all of its columns are loads, by side, then by name.
func jobOf(text string, w plain.World) driver.Job {
	return driver.Job{Text: text, Nodes: w.Nodes, Edges: slices.Clone(w.Edges), Loads: loadsOf(w)}
}

// loadsOf are all columns of a world, by side, then by name.
func loadsOf(w plain.World) []api.Load {
	var l []api.Load
	for k, c := range w.Columns {
		l = append(l, api.Load{Key: k, Vals: slices.Clone(c.Vals)})
	}
	slices.SortFunc(l, func(a, b api.Load) int {
		return cmp.Or(cmp.Compare(a.Key.Side, b.Key.Side), strings.Compare(a.Key.Name, b.Key.Name))
	})
	return l
}

// tell is an outcome as text, in which an empty list is like none.
func tell(o api.Outcome) string {
	text := fmt.Sprint(o.Errno, o.At, o.Steps)
	for _, l := range o.Out {
		text += fmt.Sprintf("; %q %d %v", l.Key.Name, l.Key.Side, l.Vals)
	}
	return text
}

func wantOutcome(t *testing.T, what string, got, want api.Outcome) {
	t.Helper()
	if tell(got) != tell(want) {
		t.Errorf("%s: %s, not %s", what, tell(got), tell(want))
	}
}

func key(name string, side api.Side) api.Key { return api.Key{Name: name, Side: side} }

func load(name string, side api.Side, vals ...api.Word) api.Load {
	return api.Load{Key: key(name, side), Vals: vals}
}
