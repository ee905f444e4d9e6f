package tree

import (
	"strings"

	"reticule/api"
)

// Alone is a form, with all below it, as a list of its own, and its place there.
func Alone(l []api.Form, at int) ([]api.Form, []int, api.Errno) {
	size := Size(l, at)
	if size == 0 {
		return nil, nil, api.ErrRange
	}
	if size > api.MaxForms {
		return nil, nil, api.ErrSpace
	}
	var alone []api.Form
	for up, place := range walk(l, []int{at}) {
		if up != nowhere {
			alone[up].Kids = append(alone[up].Kids, len(alone))
		}
		alone = append(alone, kidless(l[place]))
	}
	return alone, []int{0}, api.OK
}

// Both are two lists of forms as one, the second one behind the first, and the uppermost places of both.
func Both(l []api.Form, top []int, m []api.Form, also []int) ([]api.Form, []int, api.Errno) {
	if !Right(l, top) || !Right(m, also) {
		return nil, nil, api.ErrForm
	}
	if len(l)+len(m) > api.MaxForms {
		return nil, nil, api.ErrSpace
	}
	forms := append(moved(l, 0), moved(m, len(l))...)
	return forms, append(higher(top, 0), higher(also, len(l))...), api.OK
}

// moved are forms anew, their kids' places higher by that many.
func moved(l []api.Form, by int) []api.Form {
	var out []api.Form
	for _, form := range l {
		copied := kidless(form)
		copied.Kids = higher(form.Kids, by)
		out = append(out, copied)
	}
	return out
}

func higher(places []int, by int) []int {
	var out []int
	for _, place := range places {
		out = append(out, place+by)
	}
	return out
}

// kidless is a form anew, with no kids yet.
func kidless(form api.Form) api.Form {
	form.Text, form.Kids = strings.Clone(form.Text), nil
	return form
}
