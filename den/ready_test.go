package den_test

import (
	"testing"

	"reticule/api"
	"reticule/column"
	"reticule/den"
	"reticule/graph"
	"reticule/plain"
	"reticule/prog"
)

// The calls have the signatures that the chapter lists.
var (
	_ func(p api.Program, g *graph.Graph, t *column.Table) api.Errno                                         = den.Ready
	_ func(p api.Program, g *graph.Graph, t *column.Table, fuel int) (*column.Table, int, api.Errno)         = den.Run
	_ func(p api.Program, at int, g *graph.Graph, t *column.Table, fuel int) (*column.Table, int, api.Errno) = den.Do
	_ func(p api.Program, l []api.Act, g *graph.Graph, t *column.Table) (*column.Table, api.Errno)           = den.Region
	_ func(p api.Program, g *graph.Graph, t *column.Table, fuel int) ([]api.Key, api.Errno)                  = den.Changed
)

const ample = api.MaxFuel

func source(t *testing.T, text string) api.Program {
	t.Helper()
	p, at, e := prog.Source(text)
	if at != 0 || e != api.OK {
		t.Fatalf("%q is no program: %d, %d", text, at, e)
	}
	return p
}

// zeros is the world with columns of zeros for all that a program declares, and that it has not.
func zeros(w plain.World, p api.Program) plain.World { return w.Zeros(p.Decls) }

func tell(c *column.Table) string { return plain.Tell(c) }

func wantReady(t *testing.T, what string, p api.Program, g *graph.Graph, c *column.Table, want api.Errno) {
	t.Helper()
	if got := den.Ready(p, g, c); got != want {
		t.Errorf("%s: Ready: %d, not %d", what, got, want)
	}
	if want == api.OK {
		return
	}
	// What is not ready is neither run, nor done, whatever the fuel, or the statement.
	for _, fuel := range []int{-1, 0, 1, ample} {
		if u, steps, got := den.Run(p, g, c, fuel); u != nil || steps != 0 || got != want {
			t.Errorf("%s: Run: %v, %d, %d, not %d", what, u, steps, got, want)
		}
		for _, at := range []int{-1, 0, len(p.Stmts)} {
			if u, steps, got := den.Do(p, at, g, c, fuel); u != nil || steps != 0 || got != want {
				t.Errorf("%s: Do %d: %v, %d, %d, not %d", what, at, u, steps, got, want)
			}
		}
		if l, got := den.Changed(p, g, c, fuel); len(l) != 0 || got != want {
			t.Errorf("%s: Changed: %v, %d, not %d", what, l, got, want)
		}
	}
}

func TestP14_1Ready(t *testing.T) {
	p := source(t, "(int s) (nbool c) (eint w) (while (< s 3) (set s (+ s 1)))")
	w := zeros(plain.Of(3, "01", "12"), p)
	g := w.Graph()
	wantReady(t, "as it is declared", p, g, w.Table(), api.OK)
	wantReady(t, "more columns", p, g, w.With("zz", api.OfNode, api.Int, 1, 2, 3).With("s", api.OfNode, api.Bool, 1, 0, 1).Table(), api.OK)
	wantReady(t, "the empty program", api.Program{}, g, column.New(3, 2), api.OK)
	wantReady(t, "declared, and not used", source(t, "(int s)"), g, w.Table(), api.OK)
	wantReady(t, "edges another way", p, graph.New(3, []api.Edge{{From: 2, To: 2}, {From: 2, To: 2}}), w.Table(), api.OK)

	wantReady(t, "fewer nodes", p, g, zeros(plain.Of(2, "01", "10"), p).Table(), api.ErrGraph)
	wantReady(t, "more nodes", p, g, zeros(plain.Of(4, "01", "12"), p).Table(), api.ErrGraph)
	wantReady(t, "fewer edges", p, g, zeros(plain.Of(3, "01"), p).Table(), api.ErrGraph)
	wantReady(t, "more edges", p, g, zeros(plain.Of(3, "01", "12", "12"), p).Table(), api.ErrGraph)
	wantReady(t, "no edges", p, g, zeros(plain.Of(3), p).Table(), api.ErrGraph)
	wantReady(t, "the empty program, other nodes", api.Program{}, g, column.New(4, 2), api.ErrGraph)
	wantReady(t, "the empty program, other edges", api.Program{}, g, column.New(3, 1), api.ErrGraph)
	wantReady(t, "no columns", p, g, column.New(3, 2), api.ErrGraph)

	for _, wrong := range []string{"(nbool c) (eint w)", "(int s) (eint w)", "(int s) (nbool c)", // one is missing
		"(bool s) (nbool c) (eint w)", "(int s) (nint c) (eint w)", "(int s) (nbool c) (ebool w)", // of another kind
		"(nint s) (nbool c) (eint w)", "(int s) (bool c) (eint w)", "(int s) (nbool c) (nint w)"} { // on another side
		wantReady(t, wrong, p, g, zeros(plain.Of(3, "01", "12"), source(t, wrong)).Table(), api.ErrGraph)
	}
}

// Of several errors it is the first one: each is joined with all behind it.
func TestP14_1TheFirstErrorOfSeveral(t *testing.T) {
	const decls = "(int s) (nint a) "
	misfit, conflict := "(set s true) ", "(each (put a 1) (push a + out 1)) "
	fine := "(set s 1) "
	for mask := range 1 << 5 {
		text, want := decls+fine, api.OK
		w := zeros(plain.Of(2, "01"), source(t, decls))
		if mask&1 != 0 {
			w, want = zeros(plain.Of(3, "01"), source(t, decls)), api.ErrGraph
		}
		if mask&2 != 0 {
			text, want = text+conflict, api.ErrConflict
		}
		if mask&4 != 0 {
			text, want = text+misfit, api.ErrType
		}
		p := source(t, text)
		if mask&8 != 0 {
			p.Main, want = append(p.Main, 0), api.ErrForm
		}
		g, c := plain.Of(2, "01").Graph(), w.Table()
		if mask&16 == 0 {
			wantReady(t, text, p, g, c, want)
			continue
		}
		wantReady(t, text, p, nil, c, api.ErrNil)
		wantReady(t, text, p, g, nil, api.ErrNil)
		wantReady(t, text, p, nil, nil, api.ErrNil)
	}
}

func TestP14_1ProgramsThatDoNotFitOrClash(t *testing.T) {
	p := source(t, "(int s) (bool b) (nint a) (nbool c) (eint w) (ebool d)")
	for text, want := range map[string]api.Errno{
		"(set s b)": api.ErrType, "(set zz 1)": api.ErrType, "(set s (own a))": api.ErrType, "(if s () ())": api.ErrType, "(each (push a + out (farid)))": api.ErrType,
		"(if b ((set s true)) ())":                              api.ErrType,
		"(each (put a 1) (put a 1))":                            api.ErrConflict,
		"(while b (each (put a 1) (put c b) (pull a + out 1)))": api.ErrConflict,
		"(each (push a + out 1) (push a max out 1))":            api.ErrConflict,
		"(each (push a + out 1) (pull a + in 1))":               api.OK,
	} {
		q := source(t, "(int s) (bool b) (nint a) (nbool c) (eint w) (ebool d) "+text)
		w := zeros(plain.Of(2, "01"), p)
		wantReady(t, text, q, w.Graph(), w.Table(), want)
	}
	twice := source(t, "(int s) (int s)")
	wantReady(t, "declared twice", twice, plain.Of(1).Graph(), zeros(plain.Of(1), twice).Table(), api.ErrType)
}
