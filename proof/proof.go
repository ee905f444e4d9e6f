// Package proof is what tests of several layers lean on. No layer takes it in.
package proof

import (
	"slices"
	"strings"
)

// Roomy is a list anew, with things in the spare room behind its end.
func Roomy[T any](l []T, behind T) []T {
	return append(slices.Clone(l), behind, behind, behind)[:len(l)]
}

// Spoil fills a list, and the spare room behind its end.
func Spoil[T any](l []T, by T) {
	l = l[:cap(l)]
	for i := range l {
		l[i] = by
	}
}

// Rows does f with all rows of up to n of the things.
func Rows[T any](n int, things []T, f func([]T)) {
	var grow func(row []T, left int)
	grow = func(row []T, left int) {
		f(slices.Clone(row))
		if left == 0 {
			return
		}
		for _, thing := range things {
			grow(append(row, thing), left-1)
		}
	}
	grow(nil, n)
}

// Texts does f with all rows of up to n of the pieces, put together.
func Texts(n int, pieces []string, f func(string)) {
	Rows(n, pieces, func(row []string) { f(strings.Join(row, "")) })
}
