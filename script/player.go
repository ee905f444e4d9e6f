package script

import (
	"strings"

	"reticule/api"
	"reticule/driver"
	"reticule/num"
)

const (
	mostLoads = 8
	mostSteps = 60
)

// player is what lines came to so far.
type player struct {
	job    driver.Job
	script api.Script
	out    []api.Load // of the last run or means
}

func atFirst() player {
	return player{job: driver.Job{Nodes: 1}, script: api.Script{Workers: 1}}
}

// play does a line of a first word and others, and is its answer; false, if there is no such line, or its words do not fit: nothing changes then.
func (p *player) play(first string, words []string) (string, bool) {
	if !isLine(first, len(words)) {
		return "", false
	}
	side := api.Scalar // nodes and edges are the next sides
	switch first {
	case "link":
		side++
		fallthrough
	case "node":
		side++
		fallthrough
	case "scalar":
		return done, p.load(side, words)
	case "text":
		p.job.Text += strings.Join(words, " ") + "\n"
	case "clear":
		*p = atFirst()
	case "build":
		return p.build(), true
	case "code":
		return p.code(), true
	case "normal":
		return p.normal(), true
	case "show":
		return p.show(), true
	default:
		numbers, are := numbersOf(words)
		if !are {
			return "", false
		}
		return p.reckon(first, numbers)
	}
	return done, true
}

// isLine tells whether there is a line of a first word, and so many words behind it.
func isLine(first string, many int) bool {
	least := 0
	switch first {
	case "edge":
		least++
		fallthrough
	case "nodes", "run", "means":
		least++
		fallthrough
	case "clear", "build", "code", "normal", "show":
		return many == least
	case "scalar", "node", "link", "workers":
		least++
		fallthrough
	case "text", "seeds":
		return many >= least
	}
	return false
}

// load takes the values of a column in: its name, and numbers behind it.
func (p *player) load(side api.Side, words []string) bool {
	if len(p.job.Loads) == mostLoads {
		return false
	}
	l := api.Load{Key: api.Key{Name: words[0], Side: side}}
	for _, word := range words[1:] {
		w, wrong := num.Parse(word)
		if wrong != api.OK {
			return false
		}
		l.Vals = append(l.Vals, w)
	}
	p.job.Loads = append(p.job.Loads, l)
	return true
}

// numbersOf are words as numbers; false, if one of them is none.
func numbersOf(words []string) ([]int, bool) {
	var numbers []int
	for _, word := range words {
		n, is := Number(word)
		if !is {
			return nil, false
		}
		numbers = append(numbers, n)
	}
	return numbers, true
}

// reckon does a line all of whose words behind the first one are numbers.
func (p *player) reckon(first string, numbers []int) (string, bool) {
	switch first {
	case "nodes":
		p.job.Nodes = numbers[0]
	case "edge":
		if len(p.job.Edges) == api.MaxEdges {
			return "", false
		}
		p.job.Edges = append(p.job.Edges, api.Edge{From: numbers[0], To: numbers[1]})
	case "workers":
		p.script.Workers, p.script.By = numbers[0], numbers[1:]
	case "seeds":
		p.script.Seeds = nil
		for _, n := range numbers {
			p.script.Seeds = append(p.script.Seeds, uint64(n))
		}
	case "run":
		return p.come(numbers[0], func(most int) api.Outcome { return driver.Run(p.job, p.script, most) })
	case "means":
		return p.come(numbers[0], func(most int) api.Outcome { return driver.Means(p.job, most) })
	}
	return done, true
}

// come is what becomes of the job in so many steps.
func (p *player) come(most int, outcome func(int) api.Outcome) (string, bool) {
	if most > mostSteps {
		return "", false
	}
	o := outcome(most)
	p.out = o.Out
	return digits(int(o.Errno), o.At, o.Steps), true
}
