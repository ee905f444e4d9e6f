package order

import (
	"math"
	"slices"
	"strings"
	"testing"

	"reticule/api"
	"reticule/plain"
	"reticule/prog"
	"reticule/proof"
	"reticule/typed"
)

// What comes out of a program that may be run hangs on no seed: that each region has its own is seen of those that clash.

func source(t *testing.T, text string) api.Program {
	t.Helper()
	p, at, e := prog.Source(text)
	if at != 0 || e != api.OK {
		t.Fatalf("%q is no program: %d, %d", text, at, e)
	}
	if at, e := typed.Check(p); e != api.OK {
		t.Fatalf("%q does not fit: %d", text, at)
	}
	return p
}

func TestP15_1SeedsComeInTurn(t *testing.T) {
	for _, c := range []struct{ seeds, want []uint64 }{
		{nil, []uint64{0, 0, 0, 0, 0}}, {[]uint64{}, []uint64{0, 0, 0, 0, 0}}, {[]uint64{0}, []uint64{0, 0, 0, 0, 0}}, {[]uint64{7}, []uint64{7, 7, 7, 7, 7}},
		{[]uint64{7, 8}, []uint64{7, 8, 7, 8, 7}}, {[]uint64{math.MaxUint64, 0, 5}, []uint64{math.MaxUint64, 0, 5, math.MaxUint64, 0}}, {[]uint64{1, 2, 3, 4, 5, 6}, []uint64{1, 2, 3, 4, 5}},
	} {
		first, second := inTurn(c.seeds...), inTurn(c.seeds...)
		for i, want := range c.want {
			if got := first(); got != want {
				t.Errorf("%d, the %d-th: %d, not %d", c.seeds, i, got, want)
			}
		}
		if got := second(); got != c.want[0] { // each counts for itself
			t.Errorf("%d: %d, not %d", c.seeds, got, c.want[0])
		}
	}
}

// told is a program with regions (R) each of which writes into a, behind what stands there, whether it came in an order of an odd number.
func told(text string) string {
	return "(int i) (nint a) (nint d) " + strings.ReplaceAll(text, "R", "(each (put a (+ 1 (* 10 (own a)))) (put a (* 10 (own a))))")
}

func TestP15_1EachRegionHasItsSeed(t *testing.T) {
	w := plain.Of(1).With("i", api.Scalar, api.Int, 0).With("a", api.OfNode, api.Int, 8).With("d", api.OfNode, api.Int, 0)
	seeds := []uint64{1, 0, 2, 5, 3, 4, 8} // odd ones are 1, 5 and 3
	for text, want := range map[string]api.Word{
		"": 8, "R": 81, "R R": 810, "R R R R": 81001, "R R R R R R R R R": 8100110010, // the eighth one has the first one's again
		"(set i 5) R (fold i + 1) R (set i 3) R R": 81001,
		// Regions of loops each time: of those that are done no time, once, and often.
		"(while false R) R R": 810, "R (while false R R) R R R": 81001, "(loop false R) R": 810, "(loop false R R) R R": 81001,
		"(while (< i 4) (set i (+ i 1)) R)": 81001, "R (while (< i 3) R (set i (+ i 1))) R": 810011, "(loop (< i 3) (set i (+ i 1)) R) R R": 810011, "(loop (< i 2) (set i (+ i 1)) R R) R": 810011,
		"(while (< i 2) (set i (+ i 1)) (loop false R) R)": 81001, "(while (< i 3) (set i (+ i 1)) (while false R)) R R": 810,
		// Of branches the one that is done.
		"(if true (R R) (R R R)) R R": 81001, "(if false (R R R) (R)) R R R": 81001, "(if false (R) ()) R R": 810, "(if true () (R)) R": 81,
		// Levels are none, but what is done within them may be.
		"R (bfs d 0) R (bfs d 0) (bfs d 5) R R": 81001, "(bfs d 0 R R) R R": 81001, "(bfs d 3 R) R": 81, "(bfs d 0) R": 81, "(bfs d 0 (bfs d 0) R) R (bfs d 0) R R": 81001,
		"(while (< i 2) (bfs d 0) R (set i (+ i 1)) (bfs d 0 (set i i)) R)": 81001,
	} {
		p := source(t, told(text))
		u, _, wrong := run(p, w.Graph(), w.Table(), api.MaxFuel, seeds...)
		if wrong != api.OK || u.List(api.Key{Name: "a", Side: api.OfNode})[0] != want {
			t.Errorf("%s: %s, %d, not %d", text, plain.Tell(u), wrong, want)
		}
		zeros, _, wrong := run(p, w.Graph(), w.Table(), api.MaxFuel)
		one, _, oneE := run(p, w.Graph(), w.Table(), api.MaxFuel, 6)
		if wrong != api.OK || oneE != api.OK || !one.Same(zeros) || strings.ContainsAny(digits(zeros.List(api.Key{Name: "a", Side: api.OfNode})[0]), "1") {
			t.Errorf("%s without seeds: %s, %d", text, plain.Tell(zeros), wrong)
		}
	}
}

// digits are those of a number.
func digits(w api.Word) string {
	var text []byte
	for ; w > 0; w /= 10 {
		text = append(text, byte('0'+w%10))
	}
	slices.Reverse(text)
	return string(text)
}

// Levels of several nodes: a region within is done for each level, and takes a seed each time.
func TestP15_1RegionsWithinLevels(t *testing.T) {
	w := plain.Of(4, "01", "12", "02").With("i", api.Scalar, api.Int, 0).With("a", api.OfNode, api.Int, 8, 8, 8, 8).With("d", api.OfNode, api.Int, 0, 0, 0, 0)
	p := source(t, told("(bfs d 0 R) R R"))
	u, steps, wrong := run(p, w.Graph(), w.Table(), api.MaxFuel, 0, 1, 1, 0, 1)
	if wrong != api.OK || steps != 7 || plain.Tell(u) != "i=0 a[80110 80110 80110 80110] d[0 1 1 -1]" {
		t.Error(plain.Tell(u), steps, wrong)
	}
}

// clashing are texts of programs that fit, and clash.
func clashing() []string {
	const (
		some = "(each (put ni (own nj)) (push ni + out (via ei)) (pull ni max in (far nj)) (put nj (id)) (push nj min in (own ni) (own nb))) "
		more = "(each (put nb true) (pull nb and in (via eb)) (push ni max out (deg in)) (put ni 3 (own nb))) "
	)
	return []string{
		some, more, some + more + some + more + more,
		"(set i 3) (while (< 0 i) (set i (- i 1)) " + some + "(if (= i 1) (" + more + more + ") (" + some + "))) " + some,
		"(set j 0) (loop (< j 2) " + more + "(bfs ni (& i 3) " + some + ") (set j (+ j 1))) " + more,
		"(bfs nj 0 " + more + "(fold i + (own ni) (own nb)) (bfs ni 1 " + some + ")) (fold j max (own nj))",
		some + "(while false " + more + ") (loop b (set b false) " + some + more + ") (fold b or (own nb)) " + more,
	}
}

func TestP15_1RunAgainstPlainReckoning(t *testing.T) {
	several := [][]uint64{nil, {1}, {0}, {5, 6}, {3, 1, 4, 1, 5, 9, 2, 6}, {math.MaxUint64, 7, 1 << 40}}
	unlike, capped := 0, 0
	for _, text := range clashing() {
		p := source(t, proof.Head+text)
		for i, w := range plain.Filled(p.Decls, 2) {
			g, c := w.Graph(), w.Table()
			first, _, _ := run(p, g, c, api.MaxFuel)
			for j, seeds := range several {
				turns := []plain.Turn{plain.AsIs}
				for n, seed := range seeds {
					if n == 0 {
						turns = nil
					}
					turns = append(turns, plain.ByNumber(seed))
				}
				for _, fuel := range []int{api.MaxFuel, (i + j) % 12} {
					want, steps, is := w.Run(p, p.Main, fuel, turns...)
					u, got, wrong := run(p, g, c, fuel, seeds...)
					if (wrong == api.OK) != is || got != steps || is && !w.Behind(u).Same(want) || !is && (wrong != api.ErrCap || u != nil) {
						t.Errorf("%s over %v, with %d and %d: %s, %d, %d, not %v, %d", text, w, fuel, seeds, plain.Tell(u), got, wrong, want, steps)
					}
					if !is {
						capped++
					} else if !u.Same(first) {
						unlike++
					}
				}
			}
			if !c.Same(w.Table()) {
				t.Errorf("%s: the columns changed: %s", text, plain.Tell(c))
			}
		}
	}
	if unlike < 200 || capped < 100 {
		t.Error("too few runs:", unlike, capped)
	}
}
