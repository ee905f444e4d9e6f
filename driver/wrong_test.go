package driver_test

import (
	"math"
	"strings"
	"testing"

	"reticule/api"
	"reticule/driver"
	"reticule/proof"
)

// wantZero asks that an outcome with an error has nothing else but a place.
func wantZero(t *testing.T, what string, o api.Outcome) {
	t.Helper()
	if o.Errno < api.OK || o.Errno > api.ErrCap || o.At < -1 || o.Errno == api.OK && o.At != 0 || o.Errno != api.OK && (o.Steps != 0 || len(o.Out) != 0) {
		t.Errorf("%.60q: %s", what, tell(o))
	}
}

// Texts of any kind: all calls end, and none panics.
func TestP1WhateverTheText(t *testing.T) {
	t.Parallel()
	look := func(text string) {
		j := driver.Job{Text: text, Nodes: 2, Edges: []api.Edge{{From: 0, To: 1}}, Loads: []api.Load{load("a", api.Scalar, 5)}}
		wantZero(t, text, driver.Run(j, api.Script{Workers: 2, By: []int{0, 1}, Seeds: []uint64{1}}, 20))
		wantZero(t, text, driver.Means(j, 20))
		c, at, wrong := driver.Build(text)
		if wrong != api.OK && (len(c.List) != 0 || len(c.Program.Decls) != 0) || wrong == api.OK && (at != 0 || len(c.List) == 0) {
			t.Errorf("%q: %v, %d, %d", text, c, at, wrong)
		}
	}
	proof.Texts(4, []string{"(", ")", "(int a)", "(set a 1)", "a", " ", "\xff", ";"}, look)
	for _, times := range []int{1, 12, 13, 100, 600, 601, 3000, 5000} {
		for _, piece := range []string{"(", ")", "()", "(int a)", "a ", "\x00", "(nint a)", "((", "é"} {
			look(strings.Repeat(piece, times))
		}
	}
	for i, text := range proof.Running() {
		if i%4 == 1 {
			proof.Changed(text, []string{"(set i 1)", "nb"}, look)
		}
	}
}

// Numbers and lists of any kind.
func TestP1WhateverTheNumbers(t *testing.T) {
	t.Parallel()
	some := []int{math.MinInt, -1, 0, 1, 2, 12, 13, 1 << 32, math.MaxInt}
	for _, text := range []string{"", "(int a)", "(nint a) (bfs a 0)", "(eint a) (int b) (fold b + 1)", "(while true)", "(set"} {
		for _, n := range some {
			for _, v := range some {
				for _, loads := range [][]api.Load{nil, {}, {{}}, {load("a", api.Side(v))}, {load("a", api.Scalar, api.Word(v))}, {load("a", api.OfNode, make([]api.Word, 12)...)}, {load("a", api.OfEdge, api.Word(v))}} {
					for _, edges := range [][]api.Edge{nil, {{From: v, To: n}}} {
						j := driver.Job{Text: text, Nodes: n, Edges: edges, Loads: loads}
						wantZero(t, text, driver.Run(j, api.Script{Workers: v % 5, By: some, Seeds: []uint64{uint64(v), uint64(n)}}, min(v, 50)))
						wantZero(t, text, driver.Means(j, v))
					}
				}
			}
		}
	}
	wantZero(t, "nothing", driver.Run(driver.Job{}, api.Script{}, 0))
	wantZero(t, "nothing", driver.Means(driver.Job{}, 0))
}

func TestP1WhateverTheReport(t *testing.T) {
	t.Parallel()
	some := []int{math.MinInt, -2, -1, 0, 1, 12, 13, math.MaxInt}
	for _, errno := range some {
		for _, at := range some {
			for _, steps := range some {
				o := api.Outcome{Errno: api.Errno(errno), At: at, Steps: steps}
				s, e := driver.Report(o)
				if (e == api.OK) != (errno >= 0 && errno <= 12 && at >= -1 && steps >= 0) || (e == api.OK) != (s != "") {
					t.Errorf("%v: %q, %d", o, s, e)
				}
				if e != api.OK {
					continue
				}
				again, e := driver.ReadReport(s)
				if e != api.OK {
					t.Errorf("%q: %d", s, e)
				}
				wantOutcome(t, s, again, o)
			}
		}
	}
	for side := range 256 {
		if s, e := driver.Report(api.Outcome{Out: []api.Load{load("a", api.Side(side), 1)}}); (e == api.OK) != (side >= 1 && side <= 3) || (e == api.OK) != (s != "") {
			t.Errorf("%d: %q, %d", side, s, e)
		}
	}
}
