package order_test

import (
	"math"
	"strconv"
	"testing"

	"reticule/api"
	"reticule/column"
	"reticule/den"
	"reticule/graph"
	"reticule/order"
	"reticule/plain"
	"reticule/prog"
	"reticule/proof"
)

const ample = api.MaxFuel

func someSeeds() [][]uint64 {
	return [][]uint64{nil, {0}, {1}, {5, 6}, {0, 1, 2, 3, 4, 5, 6, 7, 8, 9}, {math.MaxUint64, 1 << 63, 12345}}
}

// wantAsDen asks that Run comes to what den does, whatever the seeds; it is den's error.
func wantAsDen(t *testing.T, p api.Program, g *graph.Graph, c *column.Table, fuel int, several ...[]uint64) api.Errno {
	t.Helper()
	want, steps, wrong := den.Run(p, g, c, fuel)
	for _, seeds := range several {
		u, got, gotE := order.Run(p, g, c, fuel, seeds...)
		if got != steps || gotE != wrong || (u == nil) != (want == nil) || want != nil && !u.Same(want) {
			text, _ := prog.Text(p)
			t.Errorf("%s, with %d and %d: %d, %d, not %d, %d", text, fuel, seeds, got, gotE, steps, wrong)
		}
	}
	return wrong
}

func TestP15_2AndE2RunComesToWhatDenDoes(t *testing.T) {
	texts := append(proof.Running(),
		proof.Head+"(while (< i 3) (set i (+ (max i 0) 1)) (each (push ni + out (own nj)) (pull ni + in (far nj)) (put nj (own ni))) (bfs nj i (each (push nb or in true (own nb)))))",
		proof.Head+"(loop false (each (pull ni max out (far ni)))) (while false (each (put ni 0))) (each (put nj 1) (push nb and out (own nb)) (push ni min in (via ei)))",
		proof.Head+"(bfs ni 0 (each (push nj + out (own ni)) (put nb (= (own ni) 1))) (if b ((each (pull ni max in 3))) ())) (bfs nj 9) (each (put ni (own nj)))",
	)
	for _, text := range texts {
		p := source(t, text)
		for _, w := range worlds(t, 1) {
			g, c := w.Graph(), w.Table()
			if wrong := wantAsDen(t, p, g, c, ample, someSeeds()...); wrong != api.OK && wrong != api.ErrCap {
				t.Fatal(text, wrong)
			}
			if !c.Same(w.Table()) {
				t.Errorf("%s: the columns changed: %s", text, plain.Tell(c))
			}
		}
	}
}

func TestP15_2ProgramsThatMayBeRunAndNot(t *testing.T) {
	all := worlds(t, 2)
	seen := map[api.Errno]int{}
	found := 0
	for _, text := range proof.Running() {
		proof.Changed(text, []string{"0", "i", "b", "max", "in", "(bfs ni 0)", "(put ni 1)", "(push ni max in (own nj))", "while", "loop", "nj", "false", "(own ni)"}, func(changed string) {
			p, _, e := prog.Source(changed)
			if e != api.OK {
				return
			}
			found++
			w := all[found%len(all)]
			seeds := someSeeds()[found%len(someSeeds())]
			seen[wantAsDen(t, p, w.Graph(), w.Table(), ample, seeds)]++
			seen[wantAsDen(t, p, w.Graph(), w.Table(), found%9, seeds)]++
		})
	}
	if found < 1000 || seen[api.OK] < 500 || seen[api.ErrCap] < 100 || seen[api.ErrType] < 300 || seen[api.ErrConflict] < 5 || seen[api.ErrGraph] < 20 {
		t.Error("too few programs:", found, seen)
	}
}

// What may not be run has den.Ready's error, whatever the fuel, and the seeds.
func TestP15_1WhatMayNotBeRun(t *testing.T) {
	p := source(t, "(int s) (nint a) (set s 1) (each (put a 1))")
	w := plain.Of(2, "01").Zeros(p.Decls)
	g, c := w.Graph(), w.Table()
	for _, fuel := range []int{math.MinInt, -1, 0, 1, ample, math.MaxInt} {
		for _, seeds := range someSeeds() {
			for what, one := range map[string]struct {
				p    api.Program
				g    *graph.Graph
				c    *column.Table
				want api.Errno
			}{
				"no graph": {p, nil, c, api.ErrNil}, "no columns": {p, g, nil, api.ErrNil}, "nothing": {api.Program{Main: []int{5}}, nil, nil, api.ErrNil},
				"not sound": {api.Program{Main: []int{5}}, g, c, api.ErrForm}, "a misfit": {source(t, "(int s) (set s true)"), g, c, api.ErrType}, "a name that is missing": {source(t, "(set s 1)"), g, c, api.ErrType},
				"a misfit that clashes": {source(t, "(nint a) (each (put a 1) (put a true))"), g, c, api.ErrType}, "a clash": {source(t, "(nint a) (each (put a 1) (put a 1))"), g, c, api.ErrConflict},
				"a clash in a loop that is done no time": {source(t, "(nint a) (while false (each (put a 1) (push a + out 1)))"), g, c, api.ErrConflict},
				"a clash, and another graph":             {source(t, "(nint a) (each (put a 1) (put a 1))"), graph.New(1, nil), c, api.ErrConflict},
				"other nodes":                            {p, graph.New(3, []api.Edge{{From: 0, To: 1}}), c, api.ErrGraph}, "other edges": {p, graph.New(2, nil), c, api.ErrGraph},
				"no such column": {p, g, column.New(2, 1), api.ErrGraph}, "a column of another kind": {source(t, "(bool s)"), g, c, api.ErrGraph},
			} {
				if u, steps, wrong := order.Run(one.p, one.g, one.c, fuel, seeds...); u != nil || steps != 0 || wrong != one.want {
					t.Errorf("%s, with %d: %v, %d, %d, not %d", what, fuel, u, steps, wrong, one.want)
				}
			}
		}
	}
}

func wantRun(t *testing.T, text, want string, steps int) {
	t.Helper()
	p := source(t, text)
	w := plain.Of(3, "01", "12").Zeros(p.Decls)
	for _, seeds := range someSeeds() {
		for _, fuel := range []int{steps, steps + 1, ample, ample + 1, math.MaxInt} {
			if u, got, wrong := order.Run(p, w.Graph(), w.Table(), fuel, seeds...); wrong != api.OK || got != steps || plain.Tell(u) != want {
				t.Errorf("%s, with %d and %d: %s, %d, %d, not %s, %d", text, fuel, seeds, plain.Tell(u), got, wrong, want, steps)
			}
		}
		for _, fuel := range []int{steps - 1, steps / 2, 0, -1, math.MinInt} {
			if u, got, wrong := order.Run(p, w.Graph(), w.Table(), fuel, seeds...); steps > 0 && (u != nil || got != 0 || wrong != api.ErrCap) {
				t.Errorf("%s, with %d and %d: %s, %d, %d", text, fuel, seeds, plain.Tell(u), got, wrong)
			}
		}
	}
}

func TestP15_1StepsAndFuel(t *testing.T) {
	wantRun(t, "", "", 0)
	wantRun(t, "(int a)", "a=0", 0)
	wantRun(t, "(int a) (set a 5)", "a=5", 1)
	wantRun(t, "(int a) (fold a + (id)) (fold a + a (< 0 (id)))", "a=9", 2)
	wantRun(t, "(int a) (while (< a 3) (set a (+ a 1)))", "a=3", 7)
	wantRun(t, "(int a) (loop (< a 3) (set a (+ a 1)))", "a=3", 6)
	wantRun(t, "(int a) (loop (< a 0) (set a (+ a 1)))", "a=1", 2)
	wantRun(t, "(int a) (while (< a 0) (set a 1))", "a=0", 1)
	wantRun(t, "(int a) (if (= a 0) ((set a 1) (set a (+ a 1))) ((set a 7)))", "a=2", 3)
	wantRun(t, "(int a) (if (= a 1) ((set a 1)) ())", "a=0", 1)
	wantRun(t, "(nint a) (each (push a + out 1)) (each (pull a + in (far a)))", "a[0 1 2]", 2)
	wantRun(t, "(nint d) (bfs d 0)", "d[0 1 2]", 4)
	wantRun(t, "(nint d) (bfs d 1)", "d[-1 0 1]", 3)
	wantRun(t, "(nint d) (bfs d -1)", "d[-1 -1 -1]", 1)
	wantRun(t, "(nint d) (bfs d 3)", "d[-1 -1 -1]", 1)
	wantRun(t, "(int a) (nint d) (nint b) (bfs d 0 (set a (+ a 1)) (each (push b + out 1 (= (own d) (- a 1)))))", "a=3 b[0 1 1] d[0 1 2]", 10)
	wantRun(t, "(nint d) (bfs d 0 (each (put d -1 (= (own d) 1))))", "d[0 -1 -1]", 5)
	// As many steps as there may be, and one more.
	wantRun(t, "(int a) (while (< a 199) (set a (+ a 1))) (set a 7)", "a=7", 400)
	p := source(t, "(int a) (while (< a 199) (set a (+ a 1))) (set a 7) (set a 8)")
	endless := source(t, "(int a) (nint b) (loop true (each (put b (id))) (bfs b 0))")
	w := plain.Of(2, "01").Zeros(append(p.Decls, endless.Decls[1]))
	for _, fuel := range []int{400, 401, math.MaxInt} {
		for _, q := range []api.Program{p, endless} {
			if u, steps, wrong := order.Run(q, w.Graph(), w.Table(), fuel, 1, 2); u != nil || steps != 0 || wrong != api.ErrCap {
				t.Errorf("%d: %v, %d, %d", fuel, u, steps, wrong)
			}
		}
	}
}

func TestP3WhatIsHandedInStays(t *testing.T) {
	for _, text := range proof.Running() {
		p := proof.Program(source(t, text))
		for i, w := range worlds(t, 1) {
			g, c := w.Graph(), w.Table()
			whole := proof.Whole(p)
			seeds := proof.Roomy([]uint64{3, uint64(i)}, 77)
			order.Run(p, g, c, 20, seeds...)
			for at := range p.Stmts {
				order.Region(p, p.Stmts[at].Acts, g, c, uint64(i))
				order.Witness(p, p.Stmts[at].Acts, g, c, 2)
			}
			if proof.Whole(p) != whole || !c.Same(w.Table()) || seeds[0] != 3 || seeds[1] != uint64(i) || seeds[:3][2] != 77 {
				t.Errorf("%s: something changed", text)
			}
		}
	}
}

// spoil lets all values of columns be others.
func spoil(c *column.Table) {
	for _, k := range c.Keys() {
		for i, w := range c.List(k) {
			c.Set(k, i, 1-w)
		}
	}
	c.Declare(api.Key{Name: "spoilt", Side: api.OfNode}, api.Int)
}

// actsOf are all that a program has.
func actsOf(p api.Program) []api.Act {
	var l []api.Act
	for _, s := range p.Stmts {
		l = append(l, s.Acts...)
	}
	return l
}

// What is answered, and what was handed in, hang on one another no more; nothing is kept.
func TestP3AndP4AndP6ColumnsAreTheCallers(t *testing.T) {
	for _, text := range []string{"", "(set i 5)", "(bfs ni 0)", "(while (< i 2) (set i 2))", "(each (put ni (id)) (push nj + out 1))", "(if b () ())"} {
		p := source(t, proof.Head+text)
		for _, w := range worlds(t, 1) {
			g, c := w.Graph(), w.Table()
			for name, call := range map[string]func() *column.Table{
				"Run":    func() *column.Table { u, _, _ := order.Run(p, g, c, ample, 4); return u },
				"Region": func() *column.Table { u, _ := order.Region(p, actsOf(p), g, c, 4); return u },
			} {
				u := call()
				if u == nil {
					continue
				}
				was := plain.Tell(u)
				spoil(u)
				if plain.Tell(c) != plain.Tell(w.Table()) {
					t.Fatalf("%s, %s: what was handed in changed", name, text)
				}
				u = call()
				if plain.Tell(u) != was {
					t.Errorf("%s, %s: %s, not %s", name, text, plain.Tell(u), was)
				}
				spoil(c)
				if plain.Tell(u) != was {
					t.Errorf("%s, %s: what was answered changed", name, text)
				}
				c = w.Table()
			}
		}
	}
}

func TestP1WhateverIsHandedIn(t *testing.T) {
	w := plain.Of(3, "01", "12", "22").Fill(source(t, proof.Sturdy).Decls, 3)
	g, c := w.Graph(), w.Table()
	for i := range 3000 {
		p := source(t, proof.Sturdy)
		switch i % 6 {
		case 0:
			p.Decls[i/7%6].Side, p.Decls[i/7%6].Kind = api.Side(i%5), api.Kind(i%4)
		case 1:
			p.Exprs[i/7%6].Kind, p.Exprs[(i+1)%6].Op = api.ExprKind(i%13), api.Op(i%23)
		case 2:
			p.Stmts[i/7%2].Kind = api.StmtKind(i % 11)
		case 3:
			p.Stmts[1].Acts[i/7%2].Kind = api.ActKind(i % 5)
		case 4:
			p.Main[i/7%2] = i%7 - 2
		}
		order.Run(p, g, c, i-50, uint64(i))
		order.Region(p, p.Stmts[1].Acts, g, c, uint64(i))
		order.Witness(p, p.Stmts[1].Acts, g, c, uint64(i%5))
		act := api.Act{Kind: api.ActKind(i % 5), Name: "ni", Op: api.Op(i % 21), In: i%2 == 0, E: i%9 - 1, Cond: i/9%8 - 2}
		order.Region(source(t, proof.Sturdy), []api.Act{act, {Name: strconv.Itoa(i)}}[:i%3], g, c, uint64(i))
	}
}
