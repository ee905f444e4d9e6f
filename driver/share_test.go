package driver_test

import (
	"fmt"
	"slices"
	"testing"

	"reticule/api"
	"reticule/driver"
	"reticule/plain"
	"reticule/proof"
)

// roomy is a job and a script anew, with things in the spare room behind the ends of all lists.
func roomy(j driver.Job, s api.Script) (driver.Job, api.Script) {
	j.Edges, j.Loads = proof.Roomy(j.Edges, api.Edge{From: 77}), proof.Roomy(j.Loads, api.Load{})
	for i := range j.Loads {
		j.Loads[i].Vals = proof.Roomy(j.Loads[i].Vals, 77)
	}
	return j, api.Script{Workers: s.Workers, By: proof.Roomy(s.By, 77), Seeds: proof.Roomy(s.Seeds, 77)}
}

// whole tells all of a job and a script, what stands in spare room, too.
func whole(j driver.Job, s api.Script) string {
	text := fmt.Sprint(j.Text, j.Nodes, j.Edges[:cap(j.Edges)], s.Workers, s.By[:cap(s.By)], s.Seeds[:cap(s.Seeds)])
	for _, l := range j.Loads[:cap(j.Loads)] {
		text += fmt.Sprint(l.Key, l.Vals[:cap(l.Vals)])
	}
	return text
}

func spoil(l []api.Load) {
	for _, one := range l {
		proof.Spoil(one.Vals, 99)
	}
	proof.Spoil(l, api.Load{Key: key("spoilt", api.OfNode)})
}

// What is handed in stays as it is; what is answered has no memory in common with it, nor with what else is answered.
func TestP3OfJobs(t *testing.T) {
	t.Parallel()
	for at, text := range proof.Running() {
		w := plain.Of(4, "01", "12", "30", "33").Fill(source(t, text).Decls, uint64(at))
		j, s := roomy(jobOf(text, w), proof.Scripts()[at%len(proof.Scripts())])
		was := whole(j, s)
		run, means := driver.Run(j, s, 100), driver.Means(j, 100)
		wantRun, wantMeans := tell(run), tell(means)
		again, also := driver.Run(j, s, 100), driver.Means(j, 100)
		if whole(j, s) != was {
			t.Errorf("%s: what was handed in changed", text)
		}
		if !proof.Apart(j, s, run, means, again, also) {
			t.Errorf("%s: lists have memory in common", text)
		}
		spoil(run.Out)
		spoil(means.Out)
		wantOutcome(t, text, driver.Run(j, s, 100), again)
		spoil(j.Loads)
		proof.Spoil(j.Edges, api.Edge{})
		proof.Spoil(s.By, 0)
		proof.Spoil(s.Seeds, 0)
		if tell(again) != wantRun || tell(also) != wantMeans {
			t.Errorf("%s: what was answered changed", text)
		}
	}
}

func TestP3OfBuild(t *testing.T) {
	for _, text := range proof.Running() {
		first, _, _ := driver.Build(text)
		second, _, _ := driver.Build(text)
		was := fmt.Sprint(second)
		if !proof.Apart(first, second) {
			t.Errorf("%s: lists have memory in common", text)
		}
		proof.SpoilCode(first)
		third, _, _ := driver.Build(text)
		if fmt.Sprint(second) != was || fmt.Sprint(third) != was {
			t.Errorf("%s: what was answered changes something", text)
		}
	}
}

func TestP3OfReports(t *testing.T) {
	for text, from := range reports() {
		j, _ := roomy(driver.Job{Loads: from.Out}, api.Script{})
		o := from
		o.Out = j.Loads
		was := whole(j, api.Script{})
		driver.Report(o)
		if whole(j, api.Script{}) != was {
			t.Errorf("%q: what was handed in changed", text)
		}
		first, _ := driver.ReadReport(text)
		second, _ := driver.ReadReport(text)
		if !proof.Apart(first, second) {
			t.Errorf("%q: lists have memory in common", text)
		}
		spoil(first.Out)
		wantOutcome(t, text, second, from)
	}
}

// E1 and P6: the same calls come to the same, however often, whatever comes between.
func TestP6NothingIsKeptBetweenCalls(t *testing.T) {
	j := mixedJob()
	j.Loads = slices.Clone(j.Loads)
	run, means := driver.Run(j, proof.Scripts()[4], 50), driver.Means(j, 50)
	for _, text := range proof.Running() {
		driver.Run(driver.Job{Text: text, Nodes: 2}, proof.Scripts()[1], 20)
		driver.Means(driver.Job{Text: text + ")", Nodes: 2}, 20)
		wantOutcome(t, "a run", driver.Run(j, proof.Scripts()[4], 50), run)
		wantOutcome(t, "what it means", driver.Means(j, 50), means)
	}
}
