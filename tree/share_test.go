package tree

import (
	"slices"
	"testing"

	"reticule/api"
	"reticule/lex"
	"reticule/proof"
)

// roomyForms are forms anew, with spare room behind all lists.
func roomyForms(l []api.Form) []api.Form {
	out := proof.Roomy(l, name("spare", 77))
	for i := range out {
		out[i].Kids = proof.Roomy(out[i].Kids, 77)
	}
	return out
}

// whole are forms anew, with what stands in the spare room.
func whole(l []api.Form) []api.Form {
	out := slices.Clone(l[:cap(l)])
	for i := range out {
		out[i].Kids = slices.Clone(out[i].Kids[:cap(out[i].Kids)])
	}
	return out
}

func spoilForms(l []api.Form) {
	for _, form := range l[:cap(l)] {
		proof.Spoil(form.Kids, 55)
	}
	proof.Spoil(l, name("spoilt", 55))
}

const shared = "(a (b 1) ((c) d)) e (f (g h i) 2)"

// calls are the lists that all calls answer of forms.
func calls(l []api.Form, top []int) (forms [][]api.Form, places [][]int) {
	for at := range l {
		alone, place, _ := Alone(l, at)
		forms, places = append(forms, alone), append(places, place, Below(l, at))
	}
	both, all, _ := Both(l, top, l, top)
	Right(l, top)
	Depth(l, top)
	Size(l, 0)
	return append(forms, both), append(places, all)
}

func TestP3WhatIsHandedInStays(t *testing.T) {
	tokens, _, _ := lex.Tokens(shared)
	tokens = proof.Roomy(tokens, api.Token{Kind: api.Name, Text: "spare"})
	wantTokens := slices.Clone(tokens[:cap(tokens)])
	l, top, _, _ := Parse(tokens)
	spoilForms(l)
	proof.Spoil(top, 55)
	if !slices.Equal(tokens[:cap(tokens)], wantTokens) {
		t.Error(tokens)
	}
	l, top = formsOf(t, shared)
	l, top = roomyForms(l), proof.Roomy(top, 77)
	wantForms, wantTop := whole(l), slices.Clone(top[:cap(top)])
	forms, places := calls(l, top)
	for _, answer := range forms {
		spoilForms(answer)
	}
	for _, answer := range places {
		proof.Spoil(answer, 55)
	}
	if !sameForms(whole(l), wantForms) || !slices.Equal(top[:cap(top)], wantTop) {
		t.Error(whole(l), top[:cap(top)])
	}
}

// What the caller does with one list of an answer, up to the end of its room, changes no other one.
func TestP3NoTwoListsShare(t *testing.T) {
	tokens, _, _ := lex.Tokens(shared)
	answers := []func() ([]api.Form, []int){
		func() ([]api.Form, []int) { l, top, _, _ := Parse(tokens); return l, top },
		func() ([]api.Form, []int) { l, _ := formsOf(t, shared); m, top, _ := Alone(l, 0); return m, top },
		func() ([]api.Form, []int) {
			l, top := formsOf(t, shared)
			m, all, _ := Both(l, top, l, top)
			return m, all
		},
	}
	for i, answer := range answers {
		want, wantTop := answer()
		for at := range want {
			l, top := answer()
			proof.Spoil(l[at].Kids, 55)
			l[at].Kids = want[at].Kids
			if !sameForms(l, want) || !slices.Equal(top, wantTop) {
				t.Errorf("answer %d: the kids of %d share memory", i, at)
			}
		}
		l, top := answer()
		proof.Spoil(top, 55)
		if !sameForms(l, want) {
			t.Errorf("answer %d: the uppermost places share memory", i)
		}
	}
}

func TestP3AnswersLieInNothingHandedIn(t *testing.T) {
	wantForms, wantPlaces := calls(formsOf(t, shared))
	l, top := formsOf(t, shared)
	forms, places := calls(l, top)
	spoilForms(l)
	proof.Spoil(top, 55)
	for i := range forms {
		if !sameForms(forms[i], wantForms[i]) {
			t.Errorf("list %d: %v", i, forms[i])
		}
	}
	for i := range places {
		if !slices.Equal(places[i], wantPlaces[i]) {
			t.Errorf("places %d: %v", i, places[i])
		}
	}
}

// E1 and P6: forms are the same, however often, and whatever others are read, or given up.
func TestP6NothingIsKeptBetweenCalls(t *testing.T) {
	tokens, _, _ := lex.Tokens(shared)
	want, wantTop, _, _ := plainParse(tokens)
	for range 20 {
		Parse(row(api.Open, 13, 0))
		Parse(row(api.Close, 1, 0))
		Parse(row(api.Name, 401, 0))
		Below(meeting(50), 0)
		wantParse(t, tokens, want, wantTop)
	}
}
