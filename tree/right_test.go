package tree

import (
	"slices"
	"strings"
	"testing"

	"reticule/api"
)

func wantRight(t *testing.T, l []api.Form, top []int, want bool) {
	t.Helper()
	if Right(l, top) != want {
		t.Errorf("%v, %v: %v", l, top, !want)
	}
}

// names are n names, and their places.
func names(n int) (l []api.Form, top []int) {
	for i := range n {
		l, top = append(l, name("a", i)), append(top, i)
	}
	return l, top
}

// nested are n brackets, each in the one ahead.
func nested(n int) []api.Form {
	var l []api.Form
	for i := range n {
		l = append(l, bracket(i, i+1))
	}
	l[n-1].Kids = nil
	return l
}

func TestP7_2RightOfNothing(t *testing.T) {
	wantRight(t, nil, nil, true)
	wantRight(t, []api.Form{}, []int{}, true)
	for _, place := range []int{0, 1, -1, 1 << 40, -1 << 40} {
		wantRight(t, nil, []int{place}, false)
		wantRight(t, []api.Form{name("a", 0)}, []int{0, place}, false)
		wantRight(t, []api.Form{name("a", 0)}, []int{place, 0}, false)
	}
	wantRight(t, []api.Form{name("a", 0)}, nil, false)
	wantRight(t, []api.Form{bracket(0)}, nil, false)
	wantRight(t, []api.Form{name("a", 0)}, []int{0}, true)
}

// Forms one by one: what each kind may have.
func TestP7_2RightKinds(t *testing.T) {
	for _, c := range []struct {
		form api.Form
		want bool
	}{
		{api.Form{Kind: api.Open}, true}, {api.Form{Kind: api.Open, Kids: []int{}}, true}, {api.Form{Kind: api.Open, At: -7}, true},
		{api.Form{Kind: api.Open, Text: "("}, false}, {api.Form{Kind: api.Open, Text: "a"}, false}, {api.Form{Kind: api.Open, Num: 1}, false}, {api.Form{Kind: api.Open, Num: -1}, false},
		{api.Form{Kind: api.Name, Text: "a"}, true}, {api.Form{Kind: api.Name, Text: "abcdefgh"}, true}, {api.Form{Kind: api.Name, Text: "+"}, true}, {api.Form{Kind: api.Name, Text: "a", Kids: []int{}, At: 9}, true},
		{api.Form{Kind: api.Name}, false}, {api.Form{Kind: api.Name, Text: "B"}, false}, {api.Form{Kind: api.Name, Text: "1"}, false}, {api.Form{Kind: api.Name, Text: "-1"}, false}, {api.Form{Kind: api.Name, Text: "("}, false},
		{api.Form{Kind: api.Name, Text: "a b"}, false}, {api.Form{Kind: api.Name, Text: "abcdefghi"}, false}, {api.Form{Kind: api.Name, Text: "a\n"}, false}, {api.Form{Kind: api.Name, Text: "a", Num: 1}, false}, {api.Form{Kind: api.Name, Text: "a", Num: -1}, false},
		{api.Form{Kind: api.Number}, true}, {api.Form{Kind: api.Number, Num: 5}, true}, {api.Form{Kind: api.Number, Num: -1 << 63}, true}, {api.Form{Kind: api.Number, Kids: []int{}}, true},
		{api.Form{Kind: api.Number, Text: "5", Num: 5}, false}, {api.Form{Kind: api.Number, Text: "a"}, false},
		{api.Form{}, false}, {api.Form{Kind: api.Close}, false}, {api.Form{Kind: api.Close, Text: ")"}, false}, {api.Form{Kind: 5}, false}, {api.Form{Kind: 255, Text: "a"}, false},
	} {
		wantRight(t, []api.Form{c.form}, []int{0}, c.want)
		wantRight(t, []api.Form{bracket(0, 1, 2), name("b", 1), c.form, number(3, 3)}, []int{0, 3}, c.want)
	}
	wantRight(t, []api.Form{bracket(0, 1), name("a", 1)}, []int{0}, true)
	for _, kind := range []api.Form{name("a", 0), number(1, 0), {Kind: api.Close}, {}} { // kids of words
		kind.Kids = []int{1}
		wantRight(t, []api.Form{kind, name("b", 1)}, []int{0}, false)
		kind.Kids = []int{0}
		wantRight(t, []api.Form{kind}, []int{0}, false)
		kind.Kids = []int{-1}
		wantRight(t, []api.Form{kind}, []int{0}, false)
	}
}

// Places that are out of order, twice, missing, their own, ahead, or none.
func TestP7_2RightPlaces(t *testing.T) {
	l, top := formsOf(t, "(a (b 1) ()) c (d)")
	wantRight(t, l, top, true)
	for _, wrong := range [][]int{nil, {0}, {0, 6}, {6, 7}, {0, 7, 6}, {6, 0, 7}, {0, 0, 6, 7}, {0, 6, 6, 7}, {0, 6, 7, 7}, {0, 6, 7, 8}, {0, 6, 7, 9}, {0, 6, 7, -1}, {-1, 0, 6, 7}, {99, 0, 6, 7}, {0, 1, 6, 7}, {0, 5, 6, 7}, {0, 1, 2, 3, 4, 5, 6, 7, 8}} {
		wantRight(t, l, wrong, false)
	}
	for at, kids := range map[int][][]int{
		0: {nil, {1}, {1, 2}, {2, 5}, {1, 5}, {2, 1, 5}, {1, 5, 2}, {1, 2, 2, 5}, {1, 1, 2, 5}, {1, 2, 5, 5}, {1, 2, 5, 6}, {1, 2, 3, 5}, {0, 1, 2, 5}, {1, 2, 5, 0}, {-1, 1, 2, 5}, {1, 2, 5, 9}, {1, 2, 5, 1 << 40}, {1, 2, 4}},
		2: {nil, {3}, {4}, {4, 3}, {3, 3, 4}, {3, 4, 5}, {2, 3, 4}, {3, 4, 2}, {0, 3, 4}, {3, 4, 0}, {3, 4, 1}, {3, 4, 4}, {3, 4, 9}, {3, 4, -1}},
		5: {{5}, {0}, {6}, {4}, {9}, {-1}},
		7: {nil, {7}, {8, 8}, {8, 9}, {0, 8}, {8, 0}},
	} {
		for _, wrong := range kids {
			m := slices.Clone(l)
			m[at].Kids = wrong
			wantRight(t, m, top, false)
		}
	}
	wantRight(t, append(slices.Clone(l), name("e", 0)), top, false)
	wantRight(t, append(slices.Clone(l), name("e", 0)), append(slices.Clone(top), 9), true)
	wantRight(t, l[:len(l)-1], top, false)
	// All places are gone through, and not in order.
	wantRight(t, []api.Form{bracket(0, 2), name("a", 1), name("b", 2)}, []int{0, 1}, false)
	wantRight(t, []api.Form{bracket(0, 1, 3), bracket(1), bracket(2), name("b", 3)}, []int{0, 2}, false)
}

func TestP7_2RightMaxForms(t *testing.T) {
	for _, n := range []int{1, 2, 399, 400, 401, 402, 1000} {
		l, top := names(n)
		wantRight(t, l, top, n <= 400)
		wantRight(t, wide(n), []int{0}, n <= 400)
	}
}

// wide are n forms: a bracket, and names in it.
func wide(n int) []api.Form {
	l, top := names(n)
	l[0] = bracket(0, top[1:]...)
	return l
}

func TestP7_2RightMaxDepth(t *testing.T) {
	for n := 1; n <= 20; n++ {
		wantRight(t, nested(n), []int{0}, n <= 12)
		m, also, e := Both(nested(min(n, 12)), []int{0}, nested(min(n, 12)), []int{0})
		if e != api.OK || !Right(m, also) {
			t.Error(n, e)
		}
	}
	l := nested(13)
	l[12] = name("a", 12)
	wantRight(t, l, []int{0}, true)
}

// All lists of 3 brackets with up to 2 kids: those are right that some text says.
func TestP7_2RightIsWhatTextsSay(t *testing.T) {
	said := [][]api.Form{}
	tops := [][]int{}
	for _, text := range []string{"()()()", "(())()", "()(())", "(()())", "((()))"} {
		l, top := formsOf(t, text)
		said, tops = append(said, l), append(tops, top)
	}
	var lists [][]int
	for a := -1; a <= 3; a++ {
		lists = append(lists, []int{a})
		for b := -1; b <= 3; b++ {
			lists = append(lists, []int{a, b})
		}
	}
	lists = append(lists, nil)
	uppermost := append(slices.Clone(lists), []int{0, 1, 2}, []int{0, 2, 1}, []int{0, 1, 1}, []int{0, 0, 0})
	bare := func(l []api.Form) []api.Form {
		l = slices.Clone(l)
		for i := range l {
			l[i].At = 0
		}
		return l
	}
	right := 0
	for _, x := range lists {
		for _, y := range lists {
			for _, z := range lists {
				l := []api.Form{bracket(0, x...), bracket(0, y...), bracket(0, z...)}
				for _, top := range uppermost {
					if !Right(l, top) {
						continue
					}
					right++
					if !slices.ContainsFunc([]int{0, 1, 2, 3, 4}, func(i int) bool { return sameForms(l, bare(said[i])) && slices.Equal(top, tops[i]) }) {
						t.Errorf("%v, %v", l, top)
					}
				}
			}
		}
	}
	if right != len(said) {
		t.Errorf("%d are right, not %d", right, len(said))
	}
}

// Where kids meet in one form many times, the list is no text's, and the calls end.
func TestP1RightOfListsThatMeet(t *testing.T) {
	l := meeting(100)
	wantRight(t, l, []int{0}, false)
	if _, _, e := Both(l, []int{0}, nil, nil); e != api.ErrForm {
		t.Error(e)
	}
	if _, _, e := Both(nil, nil, l, []int{0}); e != api.ErrForm {
		t.Error(e)
	}
}

// meeting are n brackets, both kids of each the one behind: 2 to the n ways go down.
func meeting(n int) []api.Form {
	l := nested(n)
	for i := range n - 1 {
		l[i].Kids = []int{i + 1, i + 1}
	}
	return l
}

func TestP7_2Depth(t *testing.T) {
	for text, want := range map[string]int{
		"": 0, "a": 0, "1 a": 0, "()": 1, "(a)": 1, "() ()": 1, "(a (b 1))": 2, "((a) b)": 2, "(a (b) (c (d)) e) ((f))": 3, "a (b (c))": 2, "(((a))) b": 3,
		strings.Repeat("(", 12) + strings.Repeat(")", 12): 12,
	} {
		if l, top := formsOf(t, text); Depth(l, top) != want {
			t.Errorf("%q: %d, not %d", text, Depth(l, top), want)
		}
	}
	for n := 1; n <= 30; n++ {
		if got := Depth(nested(n), []int{0}); got != min(n, 13) {
			t.Errorf("%d: %d", n, got)
		}
		for at := range n { // from another place on
			if got := Depth(nested(n), []int{at}); got != min(n-at, 13) {
				t.Errorf("%d from %d on: %d", n, at, got)
			}
		}
	}
	l, _ := formsOf(t, "(a (b 1)) (c)")
	for _, c := range []struct {
		top  []int
		want int
	}{{nil, 0}, {[]int{}, 0}, {[]int{-1}, 0}, {[]int{7}, 0}, {[]int{1 << 40, -1 << 40}, 0}, {[]int{1}, 0}, {[]int{5}, 1}, {[]int{2}, 1}, {[]int{5, 2}, 1}, {[]int{5, 0}, 2}, {[]int{0, 5}, 2}, {[]int{-1, 0, 9}, 2}, {[]int{0, 0}, 2}} {
		if got := Depth(l, c.top); got != c.want {
			t.Errorf("%v: %d, not %d", c.top, got, c.want)
		}
	}
}

// Kids that are not behind their own, or are no places, are passed over; kids of words are kids.
func TestP7_2DepthOfAnyList(t *testing.T) {
	for _, c := range []struct {
		l    []api.Form
		want int
	}{
		{[]api.Form{bracket(0, 0)}, 1}, {[]api.Form{bracket(0, -1)}, 1}, {[]api.Form{bracket(0, 1)}, 1}, {[]api.Form{bracket(0, 1<<40, -1<<40)}, 1},
		{[]api.Form{bracket(0, 1), bracket(0, 0)}, 2}, {[]api.Form{bracket(0, 1), bracket(0, 1)}, 2},
		{[]api.Form{bracket(0, 1, 2), bracket(0, 2), bracket(0, 1)}, 3}, {[]api.Form{bracket(0, 2, 1), bracket(0, 2), bracket(0)}, 3},
		{[]api.Form{{Kind: api.Name, Kids: []int{1}}, bracket(0)}, 1}, {[]api.Form{bracket(0, 1), {Kind: api.Number, Kids: []int{2}}, bracket(0)}, 2},
		{[]api.Form{{Kids: []int{1}}, {Kind: api.Close, Kids: []int{2}}, {Kind: 99}}, 0},
		{meeting(12), 12}, {meeting(13), 13}, {meeting(500), 13},
	} {
		if got := Depth(c.l, []int{0}); got != c.want {
			t.Errorf("%v: %d, not %d", c.l, got, c.want)
		}
	}
}
