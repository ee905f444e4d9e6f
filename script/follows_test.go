package script_test

import (
	"slices"
	"strings"
	"testing"

	"reticule/proof"
	"reticule/script"
)

// some are all lines there are, behind some of base, in an order that hangs on a number: each as far from the one ahead, going round.
func some(n int) []string {
	from := append(base(), more()...)
	far := []int{1, 2, 7, 13, 19, 26, 31, 44}[n%8] // none of them has a part in common with how many there are: each comes once
	lines := base()[:n%len(base())]
	for i := range from {
		lines = append(lines, from[(n+i*far)%len(from)])
	}
	return lines
}

// A script's answers begin with those of its beginning.
func TestP26_2TheBeginning(t *testing.T) {
	t.Parallel()
	for n := range 16 {
		lines := some(n)
		all := script.Run(strings.Join(lines, "\n"))
		if all != answers(lines) {
			t.Errorf("%q", lines)
		}
		for at := range lines {
			first := script.Run(strings.Join(lines[:at], "\n"))
			if !strings.HasPrefix(all, first) {
				t.Errorf("%q: %q does not begin with %q", lines, all, first)
			}
		}
	}
}

// build, code, normal and show change nothing: all other lines answer as they did without them.
func TestP26_3WhatChangesNothing(t *testing.T) {
	t.Parallel()
	telling := []string{"build", "code", "normal", "show"}
	for n := range 16 {
		lines := some(n)
		without := strings.Split(script.Run(strings.Join(lines, "\n")), "\n")
		for _, line := range telling {
			for at := range lines {
				with := strings.Split(script.Run(strings.Join(slices.Insert(slices.Clone(lines), at, line), "\n")), "\n")
				place := strings.Count(script.Run(strings.Join(lines[:at], "\n")), "\n")
				if !slices.Equal(slices.Delete(slices.Clone(with), place, place+1), without) {
					t.Fatalf("%q at %d of %q", line, at, lines)
				}
			}
		}
	}
	// One behind the other they answer the same again.
	proof.Rows(3, telling, func(row []string) {
		again := append(slices.Clone(row), row...)
		got := strings.Split(script.Run(strings.Join(append(base(), again...), "\n")), "\n")[len(base()):]
		if !slices.Equal(got[:len(row)], got[len(row):2*len(row)]) {
			t.Errorf("%q: %q", row, got)
		}
	})
}

// What lines answer hangs on no worker, and on no seed.
func TestE2WhateverTheWorkers(t *testing.T) {
	t.Parallel()
	first := script.Run(strings.Join(append(base(), "show"), "\n"))
	for _, workers := range []string{"workers 1", "workers 2", "workers 2 1 0 1", "workers 3 0 1 2", "workers 4 3 3 1", "workers 4 9999 0 17"} {
		for _, seeds := range []string{"seeds", "seeds 0", "seeds 1", "seeds 2 3", "seeds 9999 7 4 12"} {
			lines := base()
			lines[5], lines[6] = workers, seeds
			if got := script.Run(strings.Join(append(lines, "show"), "\n")); got != first || !strings.Contains(got, "k:1 a:1,1,0 d:-1,0,1 w:0,0") {
				t.Errorf("%s, %s: %q, not %q", workers, seeds, got, first)
			}
		}
	}
}

// E1 and P6: nothing is kept between scripts.
func TestP6NothingIsKeptBetweenCalls(t *testing.T) {
	text := strings.Join(append(base(), more()...), "\n")
	first := script.Run(text)
	for n := range 20 {
		script.Run(strings.Join(some(n), "\n"))
		if got := script.Run(text); got != first {
			t.Errorf("%q, not %q", got, first)
		}
		if got := script.Run("show\nbuild"); got != "-\n0 0 1\n" {
			t.Errorf("%q", got)
		}
	}
}

// Texts of any kind: a line that has words has one answer; all calls end, and none panics.
func TestP1WhateverTheText(t *testing.T) {
	t.Parallel()
	look := func(text string) {
		many := 0
		for _, line := range strings.Split(text, "\n") {
			if strings.Trim(line, " ") != "" {
				many++
			}
		}
		if got := script.Run(text); strings.Count(got, "\n") != many || got != "" && !strings.HasSuffix(got, "\n") {
			t.Errorf("%q: %q", text, got)
		}
	}
	proof.Texts(4, []string{" ", "\n", "\x00", "\xff", "text", "run", " 1", "é", "clear"}, look)
	lines := strings.Join(append(base(), more()...), "\n")
	for at := range lines {
		look(lines[:at])
		look(lines[at:])
		look(lines[:at] + "\xff" + lines[at:])
		look(lines[:at] + "\n" + lines[at:])
	}
}
