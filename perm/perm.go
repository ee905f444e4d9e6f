// Package perm is orders in which things come. See ../../shared/doc/02-perm.md.
package perm

import "reticule/api"

// cutBits is how many places of a list Groups can cut behind.
const cutBits = 64

// Many is how many orders of n things there are; 0, unless n is from 0 to MaxPerm.
func Many(n int) uint64 {
	if !fits(n) {
		return 0
	}
	many := uint64(1)
	for i := range n {
		many *= uint64(i + 1)
	}
	return many
}

func fits(n int) bool { return 0 <= n && n <= api.MaxPerm }

// Right tells whether p has each number from 0 to its length less 1 once.
func Right(p []int) bool {
	if !fits(len(p)) {
		return false
	}
	var seen [api.MaxPerm]bool
	for _, v := range p {
		if v < 0 || v >= len(p) || seen[v] {
			return false
		}
		seen[v] = true
	}
	return true
}

// From is the order of n things whose number is k modulo Many(n).
func From(n int, k uint64) ([]int, api.Errno) {
	if !fits(n) {
		return nil, api.ErrRange
	}
	k %= Many(n)
	p := make([]int, 0, n)
	var seen [api.MaxPerm]bool
places:
	for i := range n {
		behind := Many(n - 1 - i) // so many orders share what stands up to this place
		skip := k / behind
		k %= behind
		for v := range n {
			if seen[v] {
				continue
			}
			if skip == 0 {
				seen[v] = true
				p = append(p, v)
				continue places
			}
			skip--
		}
	}
	return p, api.OK
}

// Number is how many orders stand ahead of p.
func Number(p []int) (uint64, api.Errno) {
	if !Right(p) {
		return 0, api.ErrForm
	}
	number := uint64(0)
	var seen [api.MaxPerm]bool
	for i, v := range p {
		for less := range v {
			if !seen[less] {
				number += Many(len(p) - 1 - i)
			}
		}
		seen[v] = true
	}
	return number, api.OK
}

// Turn are the things of l in the order p.
func Turn(p, l []int) ([]int, api.Errno) {
	if !Right(p) || len(l) != len(p) {
		return nil, api.ErrForm
	}
	turned := make([]int, len(p))
	for i, from := range p {
		turned[i] = l[from]
	}
	return turned, api.OK
}

// Back is the order that has i at the place p[i].
func Back(p []int) ([]int, api.Errno) {
	if !Right(p) {
		return nil, api.ErrForm
	}
	back := make([]int, len(p))
	for i, place := range p {
		back[place] = i
	}
	return back, api.OK
}

// Then is the order p, turned by q.
func Then(p, q []int) ([]int, api.Errno) {
	if !Right(p) {
		return nil, api.ErrForm
	}
	return Turn(q, p)
}

// Groups are the things of l in rows: behind the i-th one a row ends, if the bit i of cuts is set.
func Groups(l []int, cuts uint64) [][]int {
	var rows [][]int
	var row []int
	for i, v := range l {
		row = append(row, v)
		if i < cutBits && cuts>>i&1 == 1 {
			rows = append(rows, row)
			row = nil // the next row must not lie behind this one in its memory
		}
	}
	if len(row) > 0 {
		rows = append(rows, row)
	}
	return rows
}
