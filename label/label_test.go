package label

import (
	"math"
	"math/rand"
	"slices"
	"testing"

	"bailey/api"
)

const greatest = math.MaxUint64

func cat(id uint64, level int) api.Cat { return api.Cat{ID: id, Level: level} }

// of: a label with just these Cats, whatever form they have.
func of(def int, cats ...api.Cat) api.Label { return api.Label{Def: def, Cats: cats} }

// The plain model of a label is its Def, and its LEVELs looked up one by one.

func levelByWords(l api.Label, id uint64) int {
	if i := slices.IndexFunc(l.Cats, func(c api.Cat) bool { return c.ID == id }); i >= 0 {
		return l.Cats[i].Level
	}
	return l.Def
}

// askedIDs: the IDs of all Cats, those beside them, and the edges.
func askedIDs(labels ...api.Label) []uint64 {
	ids := []uint64{0, 1, api.MaxCat, api.MaxCat + 1, greatest}
	for _, l := range labels {
		for _, c := range l.Cats {
			ids = append(ids, c.ID-1, c.ID, c.ID+1)
		}
	}
	slices.Sort(ids)
	return slices.Compact(ids)
}

// isFormed: are Cats rising by ID, each once, none with the level Def?
func isFormed(l api.Label) bool {
	for i, c := range l.Cats {
		if c.Level == l.Def {
			return false
		}
		for _, later := range l.Cats[i+1:] {
			if later.ID <= c.ID {
				return false
			}
		}
	}
	return true
}

func rightByWords(l api.Label) bool {
	return l.Def >= 1 && l.Def <= 4 && isFormed(l) && len(l.Cats) <= 6 &&
		!slices.ContainsFunc(l.Cats, func(c api.Cat) bool {
			return c.ID == 0 || c.ID > 1<<61-1 || c.Level < 0 || c.Level > 4
		})
}

// eachByWords: does something hold for both Defs and all LEVELs?
func eachByWords(a, b api.Label, hold func(x, y int) bool) bool {
	all := hold(a.Def, b.Def)
	for _, id := range askedIDs(a, b) {
		all = all && hold(levelByWords(a, id), levelByWords(b, id))
	}
	return all
}

func equal(x, y int) bool  { return x == y }
func atMost(x, y int) bool { return x <= y }

func greater(x, y int) int {
	if x > y {
		return x
	}
	return y
}

func lesser(x, y int) int {
	if x < y {
		return x
	}
	return y
}

func starToHigh(x int) int {
	if x == 0 {
		return 5
	}
	return x
}

func highToStar(x int) int {
	if x == 5 {
		return 0
	}
	return x
}

// wantLabel asks whether a label has a form, a Def, and such LEVELs of what is in given or in itself.
func wantLabel(t *testing.T, what string, given []api.Label, got api.Label, def int, level func(id uint64) int) {
	t.Helper()
	if got.Def != def {
		t.Errorf("%s of %v: Def %d, not %d", what, given, got.Def, def)
	}
	if !isFormed(got) {
		t.Errorf("%s of %v: %v isn't of Make's form", what, given, got)
	}
	for _, id := range askedIDs(append(slices.Clone(given), got)...) {
		if levelByWords(got, id) != level(id) {
			t.Errorf("%s of %v: %v has %d at the level %d, not %d", what, given, got, id, levelByWords(got, id), level(id))
		}
	}
}

// wantExact asks whether a label is just so.
func wantExact(t *testing.T, what string, got api.Label, def int, cats ...api.Cat) {
	t.Helper()
	if got.Def != def || !slices.Equal(got.Cats, cats) {
		t.Errorf("%s: %v, not %v", what, got, of(def, cats...))
	}
}

// wantYes asks whether a call answers yes or no as it should.
func wantYes(t *testing.T, what string, given []api.Label, got, want bool) {
	t.Helper()
	if got != want {
		t.Errorf("%s of %v: %v, not %v", what, given, got, want)
	}
}

// checkOne holds all calls of one label against the model.
func checkOne(t *testing.T, l api.Label) {
	t.Helper()
	given := []api.Label{l}
	for _, id := range askedIDs(l) {
		if got, want := Level(l, id), levelByWords(l, id); got != want {
			t.Errorf("Level of %v and %d: %d, not %d", l, id, got, want)
		}
	}
	asBefore := func(id uint64) int { return levelByWords(l, id) }
	wantLabel(t, "Make", given, Make(l.Def, l.Cats...), l.Def, asBefore)
	wantYes(t, "Right", given, Right(l), rightByWords(l))
	wantYes(t, "Same, itself,", given, Same(l, l), true)
	wantYes(t, "Same, made,", given, Same(l, Make(l.Def, l.Cats...)), true)
	wantYes(t, "Leq, itself,", given, Leq(l, l), true)
	wantLabel(t, "Raise", given, Raise(l), starToHigh(l.Def), func(id uint64) int { return starToHigh(levelByWords(l, id)) })
	wantLabel(t, "Lower", given, Lower(l), highToStar(l.Def), func(id uint64) int { return highToStar(levelByWords(l, id)) })
}

// checkSet holds Set against the model.
func checkSet(t *testing.T, l api.Label, id uint64, level int) {
	t.Helper()
	wantLabel(t, "Set", []api.Label{l, of(level, cat(id, level))}, Set(l, id, level), l.Def, func(asked uint64) int {
		if asked == id {
			return level
		}
		return levelByWords(l, asked)
	})
}

// checkTwo holds all calls of two labels against the model, and against each other.
func checkTwo(t *testing.T, a, b api.Label) {
	t.Helper()
	given := []api.Label{a, b}
	wantYes(t, "Same", given, Same(a, b), eachByWords(a, b, equal))
	wantYes(t, "Leq", given, Leq(a, b), eachByWords(a, b, atMost))
	join, meet := Join(a, b), Meet(a, b)
	wantLabel(t, "Join", given, join, greater(a.Def, b.Def), func(id uint64) int { return greater(levelByWords(a, id), levelByWords(b, id)) })
	wantLabel(t, "Meet", given, meet, lesser(a.Def, b.Def), func(id uint64) int { return lesser(levelByWords(a, id), levelByWords(b, id)) })
	wantExact(t, "Join, the other way round", Join(b, a), join.Def, join.Cats...)
	wantExact(t, "Meet, the other way round", Meet(b, a), meet.Def, meet.Cats...)
	wantYes(t, "Leq of a and Join", given, Leq(a, join), true)
	wantYes(t, "Leq of b and Join", given, Leq(b, join), true)
	wantYes(t, "Leq of Meet and a", given, Leq(meet, a), true)
	wantYes(t, "Leq of Meet and b", given, Leq(meet, b), true)
}

// smallLabels: all labels with these levels as Def and in at most two Cats, of any form.
func smallLabels(levels ...int) []api.Label {
	var one []api.Cat
	for _, id := range []uint64{3, 7} {
		for _, level := range levels {
			one = append(one, cat(id, level))
		}
	}
	var all []api.Label
	for _, def := range levels {
		all = append(all, of(def))
		for _, c := range one {
			all = append(all, of(def, c))
			for _, d := range one {
				all = append(all, of(def, c, d))
			}
		}
	}
	return all
}

// drawnLabel: a label of any form; its IDs and levels are few enough to fall together often.
func drawnLabel(r *rand.Rand) api.Label {
	ids := []uint64{0, 1, 2, 3, 4, 5, 6, 7, 8, api.MaxCat, api.MaxCat + 1, greatest}
	levels := []int{0, 1, 2, 3, 4, 5}
	if r.Intn(4) == 0 {
		levels = append(levels, -1, 6, math.MinInt, math.MaxInt)
	}
	draw := func() int { return levels[r.Intn(len(levels))] }
	l := of(draw())
	for range r.Intn(10) {
		l.Cats = append(l.Cats, cat(ids[r.Intn(len(ids))], draw()))
	}
	if r.Intn(2) == 0 {
		return Make(l.Def, l.Cats...)
	}
	return l
}

// P9.3
func TestChapterExample(t *testing.T) {
	tainted, owned := Make(api.Plain, cat(7, api.Taint)), Make(api.Plain, cat(7, api.Star))
	wantYes(t, "Leq", []api.Label{tainted, of(api.Plain)}, Leq(tainted, of(api.Plain)), false)
	raised := Raise(owned)
	wantYes(t, "Leq", []api.Label{raised, tainted}, Leq(raised, tainted), false)
	wantYes(t, "Leq", []api.Label{tainted, raised}, Leq(tainted, raised), true)
}

// P9.1
func TestLevel(t *testing.T) {
	l := of(api.Mild, cat(9, -4), cat(2, api.Star), cat(9, api.Taint), cat(greatest, math.MaxInt), cat(0, api.Mild), cat(2, 77))
	for _, want := range []api.Cat{cat(9, -4), cat(2, api.Star), cat(greatest, math.MaxInt), cat(0, api.Mild), cat(1, api.Mild), cat(10, api.Mild)} {
		if got := Level(l, want.ID); got != want.Level {
			t.Errorf("Level of %d: %d, not %d", want.ID, got, want.Level)
		}
	}
	for _, def := range []int{math.MinInt, -1, api.Star, api.High, 6, math.MaxInt} {
		if got := Level(of(def), 1); got != def {
			t.Errorf("Level without Cats: %d, not %d", got, def)
		}
		if got := Level(of(api.Plain, cat(1, def)), 1); got != def {
			t.Errorf("Level of Cats: %d, not %d", got, def)
		}
	}
}

// P9.1
func TestMake(t *testing.T) {
	wantExact(t, "none", Make(api.Plain), api.Plain)
	wantExact(t, "an empty list", Make(api.Plain, []api.Cat{}...), api.Plain)
	wantExact(t, "any order", Make(2, cat(5, 4), cat(greatest, 1), cat(0, 0), cat(3, 3)), 2, cat(0, 0), cat(3, 3), cat(5, 4), cat(greatest, 1))
	wantExact(t, "twice, the same level", Make(2, cat(5, 4), cat(5, 4)), 2, cat(5, 4))
	wantExact(t, "twice, another level", Make(2, cat(5, 4), cat(1, 1), cat(5, 3)), 2, cat(1, 1), cat(5, 4))
	wantExact(t, "the level def, alone", Make(2, cat(5, 2)), 2)
	wantExact(t, "the level def, behind another", Make(2, cat(5, 4), cat(5, 2)), 2, cat(5, 4))
	wantExact(t, "the level def, ahead of another", Make(2, cat(5, 2), cat(5, 4)), 2)
	wantExact(t, "levels of any int", Make(-7, cat(2, math.MaxInt), cat(1, math.MinInt), cat(3, -7)), -7, cat(1, math.MinInt), cat(2, math.MaxInt))
	wantExact(t, "a Def of Star", Make(api.Star, cat(4, api.Star), cat(3, api.High)), api.Star, cat(3, api.High))
}

// P9.1: so many of one ID that a sort that isn't stable would mix them.
func TestMakeOfMany(t *testing.T) {
	const ids = 50
	var cats []api.Cat
	for i := range 3000 {
		cats = append(cats, cat(uint64((i*37)%ids), i))
	}
	got := Make(-1, cats...)
	if len(got.Cats) != ids {
		t.Fatalf("%d Cats, not %d", len(got.Cats), ids)
	}
	for i := range ids {
		if first := got.Cats[(i*37)%ids]; first != cat(uint64((i*37)%ids), i) {
			t.Errorf("%v, but the first has the level %d", first, i)
		}
	}
}

// P9.1
func TestSame(t *testing.T) {
	plain := of(2, cat(1, 0), cat(5, 4))
	for name, l := range map[string]api.Label{
		"as it is":              of(2, cat(1, 0), cat(5, 4)),
		"out of order":          of(2, cat(5, 4), cat(1, 0)),
		"repeated":              of(2, cat(1, 0), cat(1, 0), cat(5, 4), cat(1, 3)),
		"with the level of Def": of(2, cat(0, 2), cat(1, 0), cat(5, 4), cat(9, 2), cat(9, 1)),
	} {
		wantYes(t, "Same, "+name+",", []api.Label{plain, l}, Same(plain, l), true)
		wantYes(t, "Same, "+name+", the other way round,", []api.Label{l, plain}, Same(l, plain), true)
	}
	for name, l := range map[string]api.Label{
		"Def alone":            of(3, cat(1, 0), cat(5, 4)),
		"one level alone":      of(2, cat(1, 0), cat(5, 3)),
		"one ID alone":         of(2, cat(1, 0), cat(6, 4)),
		"one more":             of(2, cat(1, 0), cat(5, 4), cat(greatest, 1)),
		"one less":             of(2, cat(1, 0)),
		"hidden by the first":  of(2, cat(1, 1), cat(1, 0), cat(5, 4)),
		"hidden by one of Def": of(2, cat(1, 2), cat(1, 0), cat(5, 4)),
	} {
		wantYes(t, "Same, "+name+",", []api.Label{plain, l}, Same(plain, l), false)
		wantYes(t, "Same, "+name+", the other way round,", []api.Label{l, plain}, Same(l, plain), false)
	}
	// All that is asked for has the same level in both, but some other category hasn't.
	wantYes(t, "Same, Def alone,", nil, Same(of(2, cat(1, 2)), of(3, cat(1, 2))), false)
}

// P9.2
func TestRight(t *testing.T) {
	var six []api.Cat
	for i := range 6 {
		six = append(six, cat(uint64(i+1), api.Star))
	}
	for _, l := range []api.Label{
		of(api.Low), of(api.Plain), of(api.Mild), of(api.Taint), of(api.Plain, six...),
		of(api.Plain, cat(1, api.Star), cat(2, api.Low), cat(3, api.Mild), cat(api.MaxCat, api.Taint)),
		of(api.Taint, cat(1, api.Mild)), of(api.Low, cat(1, api.Plain)),
	} {
		wantYes(t, "Right", []api.Label{l}, Right(l), true)
	}
	for name, l := range map[string]api.Label{
		"Def of Star":             of(api.Star),
		"Def of High":             of(api.High),
		"Def below all":           of(math.MinInt),
		"Def above all":           of(math.MaxInt),
		"out of order":            of(api.Plain, cat(2, api.Low), cat(1, api.Low)),
		"twice, alike":            of(api.Plain, cat(2, api.Low), cat(2, api.Low)),
		"twice, unlike":           of(api.Plain, cat(2, api.Low), cat(2, api.Mild)),
		"the level of Def":        of(api.Plain, cat(2, api.Plain)),
		"the level of Def, last":  of(api.Plain, cat(1, api.Low), cat(2, api.Plain)),
		"seven":                   of(api.Plain, append(slices.Clone(six), cat(7, api.Star))...),
		"the ID 0":                of(api.Plain, cat(0, api.Low)),
		"the ID above MaxCat":     of(api.Plain, cat(api.MaxCat+1, api.Low)),
		"the greatest ID":         of(api.Plain, cat(1, api.Low), cat(greatest, api.Low)),
		"the level below Star":    of(api.Plain, cat(1, api.Star-1)),
		"the level High":          of(api.Plain, cat(1, api.High)),
		"the least level":         of(api.Plain, cat(1, math.MinInt)),
		"the greatest level":      of(api.Plain, cat(1, math.MaxInt)),
		"the level High, of last": of(api.Plain, cat(1, api.Low), cat(2, api.High)),
	} {
		wantYes(t, "Right, "+name+",", []api.Label{l}, Right(l), false)
	}
}

// P9.3
func TestLeq(t *testing.T) {
	for _, row := range []struct {
		a, b            api.Label
		there, backward bool
	}{
		{of(2), of(2), true, true},
		{of(2), of(3), true, false},
		{of(2, cat(7, 4)), of(2), false, true},
		{of(2, cat(7, 0)), of(2), true, false},
		{of(2, cat(7, 0)), of(2, cat(7, 5)), true, false},
		{of(2, cat(7, 4)), of(2, cat(7, 5)), true, false},
		{of(2, cat(7, 4)), of(2, cat(8, 4)), false, false},
		{of(1, cat(7, 4)), of(4), true, false},
		{of(1, cat(7, 5)), of(4), false, false},
		{of(1), of(4, cat(7, 0)), false, false},
		{of(1), of(4, cat(7, 1)), true, false},
		{of(0, cat(greatest, 5)), of(5, cat(0, 0)), true, false},
		{of(2, cat(7, 1), cat(7, 5)), of(2), true, false},
		{of(2, cat(7, 2), cat(7, 5)), of(2), true, true},
		{of(2, cat(8, 4), cat(7, 1)), of(3, cat(9, 2), cat(8, 4)), true, false},
		{of(math.MinInt), of(math.MaxInt), true, false},
		{of(2, cat(1, math.MaxInt)), of(2, cat(1, math.MinInt)), false, true},
	} {
		wantYes(t, "Leq", []api.Label{row.a, row.b}, Leq(row.a, row.b), row.there)
		wantYes(t, "Leq", []api.Label{row.b, row.a}, Leq(row.b, row.a), row.backward)
	}
}

// P9.3
func TestJoinAndMeet(t *testing.T) {
	l := of(2, cat(1, 0), cat(5, 4))
	wantExact(t, "Join, itself", Join(l, l), 2, cat(1, 0), cat(5, 4))
	wantExact(t, "Meet, itself", Meet(l, l), 2, cat(1, 0), cat(5, 4))
	wantExact(t, "Join, no categories", Join(of(2), of(4)), 4)
	wantExact(t, "Meet, no categories", Meet(of(2), of(4)), 2)
	wantExact(t, "Join, in one alone", Join(l, of(2)), 2, cat(5, 4))
	wantExact(t, "Meet, in one alone", Meet(l, of(2)), 2, cat(1, 0))
	wantExact(t, "Join, in either one", Join(of(2, cat(1, 3)), of(2, cat(0, 4), cat(9, 5))), 2, cat(0, 4), cat(1, 3), cat(9, 5))
	wantExact(t, "Meet, in either one", Meet(of(2, cat(1, 1)), of(2, cat(0, 0), cat(greatest, 1))), 2, cat(0, 0), cat(1, 1), cat(greatest, 1))
	// A category that both have falls together with the new Def.
	wantExact(t, "Join, unlike Defs", Join(of(2, cat(1, 3), cat(2, 4)), of(3, cat(1, 0))), 3, cat(2, 4))
	wantExact(t, "Meet, unlike Defs", Meet(of(2, cat(1, 3), cat(2, 0)), of(3, cat(1, 2))), 2, cat(2, 0))
	// A category at the level of a Def is at another one than the new Def's.
	wantExact(t, "Join, below the new Def", Join(of(2, cat(1, 2)), of(4, cat(1, 0))), 4, cat(1, 2))
	wantExact(t, "Meet, above the new Def", Meet(of(2, cat(1, 5)), of(4, cat(1, 4))), 2, cat(1, 4))
	wantExact(t, "Join, not of that form", Join(of(2, cat(9, 4), cat(1, 2), cat(1, 5), cat(9, 5)), of(1, cat(3, 1), cat(2, 3), cat(2, 4))), 2, cat(2, 3), cat(9, 4))
	wantExact(t, "Meet, not of that form", Meet(of(2, cat(9, 0), cat(1, 2), cat(1, 0), cat(9, 5)), of(3, cat(3, 3), cat(2, 1), cat(2, 0))), 2, cat(2, 1), cat(9, 0))
	wantExact(t, "Join, any int", Join(of(math.MinInt, cat(1, -5)), of(-9, cat(2, math.MaxInt))), -9, cat(1, -5), cat(2, math.MaxInt))
	wantExact(t, "Meet, any int", Meet(of(math.MaxInt, cat(1, -5)), of(9, cat(2, math.MinInt))), 9, cat(1, -5), cat(2, math.MinInt))
}

// P9.3
func TestRaiseAndLower(t *testing.T) {
	both := of(2, cat(1, 0), cat(2, 5), cat(3, 4))
	wantExact(t, "Raise, both", Raise(both), 2, cat(1, 5), cat(2, 5), cat(3, 4))
	wantExact(t, "Lower, both", Lower(both), 2, cat(1, 0), cat(2, 0), cat(3, 4))
	wantExact(t, "Raise, Def is Star", Raise(of(0, cat(1, 2))), 5, cat(1, 2))
	wantExact(t, "Lower, Def is Star", Lower(of(0, cat(1, 2))), 0, cat(1, 2))
	wantExact(t, "Raise, Def is High", Raise(of(5, cat(1, 2))), 5, cat(1, 2))
	wantExact(t, "Lower, Def is High", Lower(of(5, cat(1, 2))), 0, cat(1, 2))
	wantExact(t, "Raise, Star falls together with Def", Raise(of(5, cat(1, 0), cat(2, 1))), 5, cat(2, 1))
	wantExact(t, "Raise, Def falls together with High", Raise(of(0, cat(1, 5), cat(2, 1))), 5, cat(2, 1))
	wantExact(t, "Lower, High falls together with Def", Lower(of(0, cat(1, 5), cat(2, 1))), 0, cat(2, 1))
	wantExact(t, "Lower, Def falls together with Star", Lower(of(5, cat(1, 0), cat(2, 1))), 0, cat(2, 1))
	wantExact(t, "Raise, not of that form", Raise(of(2, cat(4, 0), cat(1, 2), cat(1, 0), cat(4, 1))), 2, cat(4, 5))
	wantExact(t, "Lower, not of that form", Lower(of(2, cat(4, 5), cat(1, 2), cat(1, 5), cat(4, 1))), 2, cat(4, 0))
	wantExact(t, "Raise, any int", Raise(of(-1, cat(1, 6), cat(2, math.MinInt))), -1, cat(1, 6), cat(2, math.MinInt))
	wantExact(t, "Lower, any int", Lower(of(6, cat(1, -1), cat(2, math.MaxInt))), 6, cat(1, -1), cat(2, math.MaxInt))
}

// P9.3
func TestSet(t *testing.T) {
	l := of(2, cat(3, 0), cat(5, 4))
	wantExact(t, "there", Set(l, 5, 1), 2, cat(3, 0), cat(5, 1))
	wantExact(t, "not there, between", Set(l, 4, 1), 2, cat(3, 0), cat(4, 1), cat(5, 4))
	wantExact(t, "not there, ahead", Set(l, 0, 1), 2, cat(0, 1), cat(3, 0), cat(5, 4))
	wantExact(t, "not there, behind", Set(l, greatest, 5), 2, cat(3, 0), cat(5, 4), cat(greatest, 5))
	wantExact(t, "there, the level of Def", Set(l, 3, 2), 2, cat(5, 4))
	wantExact(t, "not there, the level of Def", Set(l, 4, 2), 2, cat(3, 0), cat(5, 4))
	wantExact(t, "the level it has", Set(l, 5, 4), 2, cat(3, 0), cat(5, 4))
	wantExact(t, "twice there", Set(of(2, cat(5, 4), cat(1, 1), cat(5, 3)), 5, 0), 2, cat(1, 1), cat(5, 0))
	wantExact(t, "twice there, the level of Def", Set(of(2, cat(5, 4), cat(1, 1), cat(5, 3)), 5, 2), 2, cat(1, 1))
	wantExact(t, "another twice there", Set(of(2, cat(5, 4), cat(1, 1), cat(5, 3)), 1, 3), 2, cat(1, 3), cat(5, 4))
	wantExact(t, "of none", Set(of(2), 1, math.MinInt), 2, cat(1, math.MinInt))
	wantExact(t, "of none, the level of Def", Set(of(math.MaxInt), 1, math.MaxInt), math.MaxInt)
}

// P9.1 to P9.3
func TestAllSmallLabels(t *testing.T) {
	all := smallLabels(api.Star, api.Plain, api.High)
	for _, l := range all {
		checkOne(t, l)
		for _, id := range []uint64{2, 3, 7} {
			for _, level := range []int{api.Star, api.Low, api.Plain, api.High} {
				checkSet(t, l, id, level)
			}
		}
	}
	for _, a := range all {
		for _, b := range all {
			checkTwo(t, a, b)
		}
	}
}

// P9.1 to P9.3
func TestDrawnLabels(t *testing.T) {
	r := rand.New(rand.NewSource(9))
	for range 4000 {
		a, b := drawnLabel(r), drawnLabel(r)
		if r.Intn(4) == 0 {
			// So that labels are the same often enough, in unlike forms.
			b = of(a.Def, append(slices.Clone(a.Cats), a.Cats...)...)
		}
		checkOne(t, a)
		checkSet(t, a, uint64(r.Intn(10)), r.Intn(8)-1)
		checkTwo(t, a, b)
	}
}

// P9.1 to P9.3: acts one behind the other, each held against the levels that it should leave.
func TestDrawnActs(t *testing.T) {
	r := rand.New(rand.NewSource(91))
	l := of(api.Plain)
	for range 4000 {
		before, other := l, drawnLabel(r)
		given := []api.Label{before, other}
		switch r.Intn(6) {
		case 0:
			l = Join(before, other)
			wantLabel(t, "Join", given, l, greater(before.Def, other.Def), func(id uint64) int { return greater(levelByWords(before, id), levelByWords(other, id)) })
		case 1:
			l = Meet(before, other)
			wantLabel(t, "Meet", given, l, lesser(before.Def, other.Def), func(id uint64) int { return lesser(levelByWords(before, id), levelByWords(other, id)) })
		case 2:
			l = Raise(before)
			wantLabel(t, "Raise", given, l, starToHigh(before.Def), func(id uint64) int { return starToHigh(levelByWords(before, id)) })
		case 3:
			l = Lower(before)
			wantLabel(t, "Lower", given, l, highToStar(before.Def), func(id uint64) int { return highToStar(levelByWords(before, id)) })
		case 4:
			id, level := uint64(r.Intn(10)), r.Intn(6)
			checkSet(t, before, id, level)
			l = Set(before, id, level)
		case 5:
			l = other
		}
	}
}
