package kernel_test

import (
	"fmt"
	"math"
	"slices"
	"strings"
	"testing"

	"reticule/api"
	"reticule/column"
	"reticule/graph"
	"reticule/kernel"
	"reticule/plain"
	"reticule/prog"
)

// The calls have the signatures that the chapter lists.
var (
	_ func(p api.Program, l []api.Act, g *graph.Graph, t *column.Table, v int) ([]api.Write, api.Errno)             = kernel.Puts
	_ func(p api.Program, l []api.Act, g *graph.Graph, t *column.Table, v int, k uint64) ([]api.Message, api.Errno) = kernel.Sends
	_ func(p api.Program, l []api.Act, t *column.Table, v int, in []api.Message) ([]api.Write, api.Errno)           = kernel.Takes
	_ func(l []api.Act) []api.Op                                                                                    = kernel.Ops
)

func source(t *testing.T, text string) api.Program {
	t.Helper()
	p, at, e := prog.Source(text)
	if at != 0 || e != api.OK {
		t.Fatalf("%q is no program: %d, %d", text, at, e)
	}
	return p
}

// region is a program of one region, and its acts.
func region(t *testing.T, acts string) (api.Program, []api.Act) {
	t.Helper()
	p := source(t, "(each "+acts+")")
	return p, p.Stmts[0].Acts
}

// seeds are numbers of orders: even and odd ones, multiples of 3 and others, and the greatest one.
func seeds() []uint64 {
	return []uint64{0, 1, 2, 3, 4, 5, 6, 7, 23, 24, 119, 1 << 32, 1<<63 - 1, 1 << 63, math.MaxUint64 - 1, math.MaxUint64}
}

// tellWrites are writes as text: a=5 b=-1.
func tellWrites(l []api.Write) string {
	var texts []string
	for _, w := range l {
		texts = append(texts, fmt.Sprintf("%s=%d", w.Name, w.Val))
	}
	return strings.Join(texts, " ")
}

// tellMessages are messages as text: 2.0=5 is 5 to the node 2 with the tag 0.
func tellMessages(l []api.Message) string {
	var texts []string
	for _, m := range l {
		texts = append(texts, fmt.Sprintf("%d.%d=%d", m.To, m.Tag, m.Val))
	}
	return strings.Join(texts, " ")
}

// square is four nodes: the node 0 has two edges to the node 1, and one to the node 2; the node 2 one to itself, and one to the node 0; no edge leaves the node 1; the node 3 has none at all.
func square() plain.World {
	return plain.Of(4, "01", "20", "01", "22", "02").
		With("i", api.Scalar, api.Int, 5).With("y", api.Scalar, api.Bool, 1).
		With("a", api.OfNode, api.Int, 1, 2, 4, 8).With("b", api.OfNode, api.Int, 10, 20, 30, 40).With("c", api.OfNode, api.Bool, 1, 0, 1, 0).
		With("w", api.OfEdge, api.Int, 100, 200, 300, 400, 500)
}

// wantPuts asks what each node of square puts.
func wantPuts(t *testing.T, acts string, want ...string) {
	t.Helper()
	p, l := region(t, acts)
	w := square()
	for v := range want {
		got, e := kernel.Puts(p, l, w.Graph(), w.Table(), v)
		if e != api.OK || tellWrites(got) != want[v] {
			t.Errorf("%s at %d: %s, %d, not %s", acts, v, tellWrites(got), e, want[v])
		}
		if model, e := w.Puts(p, l, v); e != api.OK || tellWrites(model) != want[v] {
			t.Errorf("%s at %d: the model has %s, %d", acts, v, tellWrites(model), e)
		}
	}
}

// wantSends asks what each node of square sends, in the order of a number.
func wantSends(t *testing.T, acts string, k uint64, want ...string) {
	t.Helper()
	p, l := region(t, acts)
	w := square()
	for v := range want {
		got, e := kernel.Sends(p, l, w.Graph(), w.Table(), v, k)
		if e != api.OK || tellMessages(got) != want[v] {
			t.Errorf("%s at %d by %d: %s, %d, not %s", acts, v, k, tellMessages(got), e, want[v])
		}
		if model, e := w.Sends(p, l, v, k); e != api.OK || tellMessages(model) != want[v] {
			t.Errorf("%s at %d by %d: the model has %s, %d", acts, v, k, tellMessages(model), e)
		}
	}
}

// wantTakes asks what a node of square takes in.
func wantTakes(t *testing.T, acts string, v int, in []api.Message, want string) {
	t.Helper()
	p, l := region(t, acts)
	w := square()
	got, e := kernel.Takes(p, l, w.Table(), v, in)
	if e != api.OK || tellWrites(got) != want {
		t.Errorf("%s at %d of %s: %s, %d, not %s", acts, v, tellMessages(in), tellWrites(got), e, want)
	}
	if model, e := w.Takes(l, v, in); e != api.OK || tellWrites(model) != want {
		t.Errorf("%s at %d of %s: the model has %s, %d", acts, v, tellMessages(in), tellWrites(model), e)
	}
}

// wantModel asks that a node does what the model's does, over columns, and tells the errors of its puts and sends.
func wantModel(t *testing.T, p api.Program, l []api.Act, w plain.World, table *column.Table, v int, k uint64) [2]api.Errno {
	t.Helper()
	g := w.Graph()
	puts, wrong := kernel.Puts(p, l, g, table, v)
	if want, e := w.Puts(p, l, v); wrong != e || !slices.Equal(puts, want) {
		t.Errorf("Puts of %v at %d: %v, %d, not %v, %d", l, v, puts, wrong, want, e)
	}
	sends, also := kernel.Sends(p, l, g, table, v, k)
	if want, e := w.Sends(p, l, v, k); also != e || !slices.Equal(sends, want) {
		t.Errorf("Sends of %v at %d by %d: %v, %d, not %v, %d", l, v, k, sends, also, want, e)
	}
	return [2]api.Errno{wrong, also}
}
