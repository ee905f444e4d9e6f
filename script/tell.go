package script

import (
	"strings"

	"reticule/api"
	"reticule/driver"
	"reticule/ir"
	"reticule/norm"
	"reticule/num"
	"reticule/prog"
)

// digits are numbers as text, with blanks between.
func digits(numbers ...int) string {
	var words []string
	for _, n := range numbers {
		words = append(words, num.Digits(api.Word(n)))
	}
	return strings.Join(words, " ")
}

func (p *player) build() string {
	c, at, wrong := driver.Build(p.job.Text)
	return digits(int(wrong), at, len(c.List))
}

func (p *player) code() string {
	c, _, wrong := driver.Build(p.job.Text)
	if wrong != api.OK {
		return digits(int(wrong))
	}
	text, wrong := ir.Print(c)
	answer := digits(int(wrong))
	for line := range strings.Lines(text) {
		answer += ", " + strings.TrimSuffix(line, "\n")
	}
	return answer
}

func (p *player) normal() string {
	q, _, wrong := prog.Source(p.job.Text)
	if wrong != api.OK {
		return digits(int(wrong))
	}
	q, wrong = norm.Normal(q)
	if wrong != api.OK {
		return digits(int(wrong))
	}
	text, _ := prog.Text(q) // what is normal can be told
	return digits(int(api.OK)) + " " + strings.ReplaceAll(strings.TrimSuffix(text, "\n"), "\n", " ")
}

// show are the columns of the last run or means.
func (p *player) show() string {
	if len(p.out) == 0 {
		return "-"
	}
	var columns []string
	for _, l := range p.out {
		var values []string
		for _, w := range l.Vals {
			values = append(values, num.Digits(w))
		}
		columns = append(columns, l.Key.Name+":"+strings.Join(values, ","))
	}
	return strings.Join(columns, " ")
}
