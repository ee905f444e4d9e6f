package proof

import (
	"math"

	"reticule/api"
)

// Scripts are those of one worker up to as many as may be, with nodes dealt in several ways, and several seeds.
func Scripts() []api.Script {
	return []api.Script{
		{Workers: 1},
		{Workers: 1, By: []int{7, -3, 5}, Seeds: []uint64{1}},
		{Workers: 2, Seeds: []uint64{3}},
		{Workers: 2, By: []int{0, 1, 0, 1, 0, 1, 0, 1, 0, 1, 0, 1}, Seeds: []uint64{5, 6}},
		{Workers: 2, By: []int{1, 1, 0}, Seeds: []uint64{4, 9, 1}},
		{Workers: 3, By: []int{-1, 4, 100, 2, 1}, Seeds: []uint64{0, 1, 2, 3, 4, 5, 6}},
		{Workers: 3, By: []int{2, 2, 2, 2, 2, 2, 2, 2, 2, 2, 2, 2, 2, 0, 1}, Seeds: []uint64{math.MaxUint64, math.MaxUint64 - 1}},
		{Workers: 4, By: []int{3, 2, 1, 0, 3, 2, 1, 0}, Seeds: []uint64{1<<63 + 1, 12, 7}},
		{Workers: 4, By: []int{math.MinInt, math.MaxInt, -1}, Seeds: []uint64{17, 23}},
	}
}
