package script

import (
	"fmt"
	"testing"

	"reticule/api"
)

// What comes out never hangs on whose the nodes are, nor on seeds: that lines set these is looked at from within.
func TestP26_1WorkersAndSeedsAreTheScripts(t *testing.T) {
	p := atFirst()
	for _, c := range []struct {
		line string
		want api.Script
	}{
		{"clear", api.Script{Workers: 1}},
		{"workers 3 2 1 0 9", api.Script{Workers: 3, By: []int{2, 1, 0, 9}}},
		{"seeds 5 0 7", api.Script{Workers: 3, By: []int{2, 1, 0, 9}, Seeds: []uint64{5, 0, 7}}},
		{"seeds 9999", api.Script{Workers: 3, By: []int{2, 1, 0, 9}, Seeds: []uint64{9999}}},
		{"workers 2 1", api.Script{Workers: 2, By: []int{1}, Seeds: []uint64{9999}}},
		{"seeds 1 x", api.Script{Workers: 2, By: []int{1}, Seeds: []uint64{9999}}},
		{"workers 4 1 x", api.Script{Workers: 2, By: []int{1}, Seeds: []uint64{9999}}},
		{"workers 0", api.Script{Seeds: []uint64{9999}}},
		{"seeds", api.Script{}},
		{"workers 2 7 7", api.Script{Workers: 2, By: []int{7, 7}}},
		{"clear", api.Script{Workers: 1}},
	} {
		words := Words(c.line)
		p.play(words[0], words[1:])
		if fmt.Sprint(p.script) != fmt.Sprint(c.want) {
			t.Errorf("%s: %v, not %v", c.line, p.script, c.want)
		}
	}
}
