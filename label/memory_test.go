package label

import (
	"slices"
	"testing"

	"bailey/api"
)

// marked is what stands in spare room: if it is another, somebody wrote there.
var marked = api.Cat{ID: 4242, Level: -4242}

// roomy: the label with spare room behind its Cats.
func roomy(l api.Label) api.Label {
	cats := slices.Concat(l.Cats, slices.Repeat([]api.Cat{marked}, 5))
	return api.Label{Def: l.Def, Cats: cats[:len(l.Cats)]}
}

// wantKept asks whether a label of roomy is as it was, with its spare room.
func wantKept(t *testing.T, what string, got, was api.Label) {
	t.Helper()
	if got.Def != was.Def || !slices.Equal(got.Cats, was.Cats) {
		t.Errorf("%s: the label is %v, not %v", what, got, was)
	}
	for _, c := range got.Cats[len(got.Cats):cap(got.Cats)] {
		if c != marked {
			t.Errorf("%s: %v stands in the spare room", what, c)
		}
	}
}

// scrawl writes over all of an answer, spare room too.
func scrawl(l api.Label) {
	all := l.Cats[:cap(l.Cats)]
	for i := range all {
		all[i] = api.Cat{ID: 666, Level: 666}
	}
}

// calls: all calls, of two labels each; an answer that is no label is told as a Def.
func calls() map[string]func(a, b api.Label) api.Label {
	yes := func(is bool) api.Label {
		if is {
			return of(1)
		}
		return of(0)
	}
	return map[string]func(a, b api.Label) api.Label{
		"Level":            func(a, b api.Label) api.Label { return of(Level(a, 5)) },
		"Right":            func(a, b api.Label) api.Label { return yes(Right(a)) },
		"Same":             func(a, b api.Label) api.Label { return yes(Same(a, b)) },
		"Leq":              func(a, b api.Label) api.Label { return yes(Leq(a, b)) },
		"Make":             func(a, b api.Label) api.Label { return Make(a.Def, a.Cats...) },
		"Join":             Join,
		"Meet":             Meet,
		"Join with itself": func(a, b api.Label) api.Label { return Join(a, a) },
		"Meet with itself": func(a, b api.Label) api.Label { return Meet(a, a) },
		"Raise":            func(a, b api.Label) api.Label { return Raise(a) },
		"Lower":            func(a, b api.Label) api.Label { return Lower(a) },
		"Set, there":       func(a, b api.Label) api.Label { return Set(a, 5, 1) },
		"Set, to Def":      func(a, b api.Label) api.Label { return Set(a, 5, a.Def) },
		"Set, not there":   func(a, b api.Label) api.Label { return Set(a, 6, 1) },
	}
}

// P2, P9.1 to P9.3: no call changes or keeps what it was given, and an answer is the caller's own.
func TestMemory(t *testing.T) {
	forms := []api.Label{
		of(2), of(3, cat(5, 4)), of(2, cat(1, 0), cat(5, 4), cat(9, 5)), of(2, cat(2, 1), cat(5, 4)),
		of(2, cat(9, 0), cat(5, 5), cat(5, 1), cat(1, 2), cat(1, 3)), of(0, cat(5, 5)), of(5, cat(5, 0), cat(7, 0)),
	}
	for name, call := range calls() {
		for _, a := range forms {
			for _, b := range forms {
				checkMemory(t, name, call, a, b)
			}
		}
	}
}

func checkMemory(t *testing.T, name string, call func(a, b api.Label) api.Label, a, b api.Label) {
	t.Helper()
	left, right := roomy(a), roomy(b)
	first := call(left, right)
	wantKept(t, name, left, a)
	wantKept(t, name, right, b)
	told := of(first.Def, slices.Clone(first.Cats)...)

	second := call(left, right)
	scrawl(second)
	wantKept(t, name+", an answer is changed", left, a)
	wantKept(t, name+", an answer is changed", right, b)
	wantExact(t, name+", another answer is changed", first, told.Def, told.Cats...)

	scrawl(left)
	scrawl(right)
	wantExact(t, name+", what was handed in is changed", first, told.Def, told.Cats...)
	third := call(roomy(a), roomy(b))
	wantExact(t, name+", asked again", third, told.Def, told.Cats...)
}

// P1: a long list is no reason not to end.
func TestLongLists(t *testing.T) {
	const count = 200000
	down := make([]api.Cat, count)
	for i := range down {
		down[i] = cat(uint64(count-i), i%7)
	}
	l := of(api.Plain, down...)
	made := Make(api.Plain, down...)
	wantYes(t, "Same", nil, Same(l, made), true)
	wantYes(t, "Leq", nil, Leq(l, Raise(l)), true)
	wantYes(t, "Right", nil, Right(l), false)
	wantYes(t, "Right", nil, Right(made), false)
	for _, x := range []api.Label{made, Join(l, Lower(l)), Meet(l, Raise(l)), Set(l, 0, 1)} {
		for i := 1; i < len(x.Cats); i++ {
			if x.Cats[i-1].ID >= x.Cats[i].ID {
				t.Fatalf("%v stands ahead of %v", x.Cats[i-1], x.Cats[i])
			}
		}
	}
}
