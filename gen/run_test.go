package gen_test

import (
	"math"
	"testing"

	"reticule/api"
	"reticule/column"
	"reticule/gen"
	"reticule/graph"
	"reticule/plain"
	"reticule/proof"
)

// wantTable asks that Run comes to such columns in so many steps, and is out of steps with one fewer.
func wantTable(t *testing.T, c api.Code, w plain.World, want string, steps int) {
	t.Helper()
	for _, most := range []int{steps, steps + 1, api.MaxSteps, math.MaxInt} {
		if u, n, e := gen.Run(c, w.Graph(), w.Table(), most); e != api.OK || n != steps || plain.Tell(u) != want {
			t.Errorf("%s, %s: %v, %d, %d, not %s, %d", text(c.Program), printed(c), u, n, e, want, steps)
		}
	}
	for _, most := range []int{math.MinInt, -1, 0, 1, steps - 2, steps - 1} {
		if u, n, e := gen.Run(c, w.Graph(), w.Table(), most); most < steps && (e != api.ErrCap || n != 0 || u != nil) {
			t.Errorf("%s, %s, in %d: %d, %d", text(c.Program), printed(c), most, n, e)
		}
	}
	wantRun(t, c, w, steps)
	wantRun(t, c, w, steps-1)
}

// chain is three nodes, one behind the other, with columns of several's.
func chain() plain.World {
	return plain.Of(3, "01", "12").With("i", api.Scalar, api.Int, 5).With("b", api.Scalar, api.Bool, 1).With("a", api.OfNode, api.Int, 1, 2, 4)
}

// Each instruction is one step, Stop too; a region is done when it is taken.
func TestP20_2RunOfEachInstruction(t *testing.T) {
	w := chain()
	no := w.With("b", api.Scalar, api.Bool, 0)
	for _, c := range []struct {
		words string
		w     plain.World
		want  string
		steps int
	}{
		{"stop", w, "b=1 i=5 a[1 2 4]", 1}, {"set 0; stop", w, "b=1 i=6 a[1 2 4]", 2}, {"set 0; set 0; set 0; stop", w, "b=1 i=8 a[1 2 4]", 4}, {"fold 1; stop", w, "b=1 i=12 a[1 2 4]", 2}, {"send 3; take 3; stop", w, "b=1 i=5 a[1 3 5]", 3},
		{"send 3; take 3; send 3; take 3; fold 1; stop", w, "b=1 i=16 a[1 4 6]", 6}, {"stop; set 0; stop", w, "b=1 i=5 a[1 2 4]", 1},
		// On to the one behind if it is true, else to To.
		{"unless 2 2; set 0; stop", w, "b=1 i=6 a[1 2 4]", 3}, {"unless 2 2; set 0; stop", no, "b=0 i=5 a[1 2 4]", 2}, {"unless 2 1; set 0; stop", w, "b=1 i=6 a[1 2 4]", 3}, {"unless 2 1; set 0; stop", no, "b=0 i=6 a[1 2 4]", 3}, {"unless 2 0; stop", w, "b=1 i=5 a[1 2 4]", 2},
		{"jump 2; set 0; stop", w, "b=1 i=5 a[1 2 4]", 2}, {"jump 3; stop; stop; set 0; jump 2", w, "b=1 i=6 a[1 2 4]", 4},
		// The statement of while is looked at, and not its Then.
		{"unless 4 4; set 0; jump 0; stop; stop", w, "b=1 i=7 a[1 2 4]", 8}, {"unless 4 5; fold 1; send 3; take 3; jump 0; stop", w, "b=1 i=12 a[1 3 5]", 7}, {"unless 4 1; unless 4 2; stop", w, "b=1 i=5 a[1 2 4]", 3},
	} {
		wantTable(t, code(t, several, c.words), c.w, c.want, c.steps)
	}
}

func TestP20_2RunExample(t *testing.T) {
	p := source(t, "(int i) (nint a) (if (< i 1) ((each (push a + out 1))) ((set i 5))) (while (< i 2) (set i (+ i 1)))")
	c, _ := gen.Compile(p)
	w := plain.Of(2, "01").Zeros(p.Decls)
	wantTable(t, c, w, "i=2 a[0 1]", 12)
	wantTable(t, c, w.With("i", api.Scalar, api.Int, 3), "i=5 a[0 0]", 4)
}

// What goes on for ever is out of steps, whatever their number; what ends in MaxSteps is not, and with one more is.
func TestP20_2AndE4RunOfManySteps(t *testing.T) {
	w := chain()
	for _, words := range []string{"jump 0", "jump 1; jump 0", "unless 2 0; jump 0", "set 0; send 3; take 3; jump 0", "unless 2 2; jump 0; stop"} {
		c := code(t, several, words)
		for _, most := range []int{math.MinInt, -1, 0, 1, 2, api.MaxFuel, api.MaxSteps, api.MaxSteps + 1, math.MaxInt} {
			if u, n, e := gen.Run(c, w.Graph(), w.Table(), most); e != api.ErrCap || n != 0 || u != nil {
				t.Errorf("%s, %d: %d, %d", words, most, n, e)
			}
		}
	}
	long := source(t, "(int i) (int j) (set j 0) (while (< j 399) (set j (+ j 1)))")
	c, _ := gen.Compile(long)
	w = plain.Of(1).With("i", api.Scalar, api.Int, 3).With("j", api.Scalar, api.Int, 9)
	wantTable(t, c, w, "i=3 j=399", api.MaxSteps)
	longer := source(t, "(int i) (int j) (set j 0) (set i 1) (while (< j 399) (set j (+ j 1)))")
	c, _ = gen.Compile(longer)
	for _, most := range []int{api.MaxSteps - 1, api.MaxSteps, api.MaxSteps + 1, api.MaxSteps + 2, math.MaxInt} {
		if u, n, e := gen.Run(c, w.Graph(), w.Table(), most); e != api.ErrCap || n != 0 || u != nil {
			t.Errorf("%d: %d, %d", most, n, e)
		}
	}
}

func TestP20_2RunIsRefused(t *testing.T) {
	w := chain()
	right := code(t, several, "set 0; stop")
	wrong := api.Code{Program: right.Program, List: right.List[:1]}
	g, table := w.Graph(), w.Table()
	other := w.With("a", api.OfNode, api.Bool, 1, 0, 1).Table()
	for i, c := range []struct {
		code  api.Code
		graph *graph.Graph
		table *column.Table
		want  api.Errno
	}{
		{right, g, table, api.OK},
		{right, nil, table, api.ErrNil}, {right, g, nil, api.ErrNil}, {right, nil, nil, api.ErrNil}, {wrong, nil, table, api.ErrNil}, {wrong, g, nil, api.ErrNil}, {api.Code{}, nil, nil, api.ErrNil}, {right, nil, other, api.ErrNil}, {right, graph.New(0, nil), table, api.ErrNil}, {right, g, column.New(0, 2), api.ErrNil},
		{wrong, g, table, api.ErrForm}, {wrong, g, other, api.ErrForm}, {api.Code{}, g, table, api.ErrForm}, {api.Code{Program: right.Program}, g, table, api.ErrForm}, {api.Code{List: right.List}, g, table, api.ErrForm},
		{api.Code{Program: source(t, "(loop true)"), List: right.List[1:]}, g, table, api.ErrForm}, {api.Code{Program: source(t, "(set i 1)"), List: right.List[1:]}, g, table, api.ErrForm}, {api.Code{Program: source(t, "(nint a) (each (put a 1) (put a 1))"), List: right.List[1:]}, g, other, api.ErrForm},
		// Columns that do not fit: of another kind, not there, of more or fewer nodes or edges.
		{right, g, other, api.ErrGraph}, {right, g, column.New(3, 2), api.ErrGraph}, {right, g, plain.Of(2, "01", "10").Zeros(right.Program.Decls).Table(), api.ErrGraph}, {right, g, plain.Of(3, "01").Zeros(right.Program.Decls).Table(), api.ErrGraph}, {right, graph.New(4, nil), table, api.ErrGraph}, {right, graph.New(3, []api.Edge{{From: 0, To: 1}}), table, api.ErrGraph},
		{right, g, plain.Of(3, "01", "12").With("i", api.OfNode, api.Int, 0, 0, 0).With("b", api.Scalar, api.Bool, 1).With("a", api.OfNode, api.Int, 1, 2, 4).Table(), api.ErrGraph},
		// Other edges, as many of them, do; and columns that the program does not declare.
		{right, graph.New(3, []api.Edge{{From: 2, To: 2}, {From: 2, To: 2}}), table, api.OK}, {right, g, w.With("zz", api.OfEdge, api.Bool, 1, 0).Table(), api.OK},
	} {
		for _, most := range []int{2, 1, 0, -5, math.MaxInt} {
			want := c.want
			if want == api.OK && most < 2 {
				want = api.ErrCap
			}
			u, n, e := gen.Run(c.code, c.graph, c.table, most)
			if e != want || (u != nil) != (want == api.OK) || (n == 2) != (want == api.OK) || n != 0 && n != 2 {
				t.Errorf("%d, %d: %v, %d, %d, not %d", i, most, u, n, e, want)
			}
		}
	}
}

// A code whose columns are of nothing: one node, no edges, nothing declared.
func TestP20_2RunOverOneNode(t *testing.T) {
	w := plain.Of(1)
	wantTable(t, code(t, "", "stop"), w, "", 1)
	wantTable(t, code(t, "(while false)", "unless 0 2; jump 0; stop"), w, "", 2)
	one := source(t, "(int s) (nint a) (each (put a 3) (push a + out 1))")
	if _, e := gen.Compile(one); e != api.ErrForm {
		t.Error(e)
	}
	c, _ := gen.Compile(source(t, "(int s) (nint a) (each (push a + out 1)) (fold s + (own a)) (each (put a (+ s (deg in))))"))
	wantTable(t, c, w.Zeros(c.Program.Decls), "s=0 a[0]", 6)
	wantTable(t, c, plain.Of(1, "00", "00").Zeros(c.Program.Decls), "s=2 a[4]", 6)
}

func TestP3AndP4RunChangesNothing(t *testing.T) {
	w := chain()
	for _, words := range []string{"stop", "set 0; stop", "send 3; take 3; stop", "fold 1; stop", "unless 2 1; stop", "jump 0", "unless 4 5; fold 1; send 3; take 3; jump 0; stop"} {
		c := proof.Code(code(t, several, words))
		whole := proof.WholeCode(c)
		g, table, was := w.Graph(), w.Table(), w.Table()
		u, _, e := gen.Run(c, g, table, 50)
		if proof.WholeCode(c) != whole || !table.Same(was) {
			t.Errorf("%s: what was handed in changed", words)
		}
		if e != api.OK {
			continue
		}
		v, _, _ := gen.Run(c, g, table, 50)
		then := plain.Tell(v)
		k := api.Key{Name: "a", Side: api.OfNode}
		if u.Set(k, 1, 77) != api.OK || u.Declare(api.Key{Name: "zz", Side: api.Scalar}, api.Int) != api.OK || !table.Same(was) || plain.Tell(v) != then {
			t.Errorf("%s: what was answered changes something", words)
		}
		if table.Set(k, 2, 55) != api.OK || plain.Tell(v) != then {
			t.Errorf("%s: what was answered changed", words)
		}
	}
}
