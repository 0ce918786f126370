package flow

import (
	"math"
	"math/rand"
	"slices"
	"strings"
	"testing"

	"bailey/api"
)

const greatest = math.MaxUint64

func cat(id uint64, level int) api.Cat { return api.Cat{ID: id, Level: level} }

// of: a label with just these Cats, whatever form they have.
func of(def int, cats ...api.Cat) api.Label { return api.Label{Def: def, Cats: cats} }

// word is one of the words of a promise, and whether it holds.
type word struct {
	name  string
	holds bool
}

// The words of the promises, by the names that rows call them.
const (
	lRight      = "l is Right"
	lPure       = "l is PURE"
	clearRight  = "clear is Right"
	clearPure   = "clear is PURE"
	lRaise      = "l, the label's Raise"
	labelL      = "the label, l"
	lClearance  = "l, the clearance"
	lClear      = "l, clear"
	clearOver   = "clear, the clearance"
	labelClear  = "the label, clear"
	clearJoin   = "clear, the Join"
	nextRight   = "next's label is Right"
	nextClearOK = "next's clearance is Right"
	nextPure    = "next's clearance is PURE"
	labelGate   = "the label, the gate's clearance"
	leastLabel  = "the Lower, next's label"
	nextOver    = "next's label, next's clearance"
	nextClears  = "next's clearance, the Join of both clearances"
)

// broken: the words that don't hold, with "; " between them.
func broken(words []word) string {
	var names []string
	for _, w := range words {
		if !w.holds {
			names = append(names, w.name)
		}
	}
	return strings.Join(names, "; ")
}

// column is a label as its Def and, behind it, the LEVELs of some categories, one by one.
type column []int

// columns: all labels, with the LEVELs of each category of any of them.
func columns(labels ...api.Label) []column {
	var ids []uint64
	for _, l := range labels {
		for _, c := range l.Cats {
			ids = append(ids, c.ID)
		}
	}
	slices.Sort(ids)
	ids = slices.Compact(ids)
	all := make([]column, len(labels))
	for i, l := range labels {
		all[i] = column{l.Def}
		for _, id := range ids {
			all[i] = append(all[i], levelByWords(l, id))
		}
	}
	return all
}

func levelByWords(l api.Label, id uint64) int {
	if i := slices.IndexFunc(l.Cats, func(c api.Cat) bool { return c.ID == id }); i >= 0 {
		return l.Cats[i].Level
	}
	return l.Def
}

func (c column) leq(d column) bool {
	for i := range c {
		if c[i] > d[i] {
			return false
		}
	}
	return true
}

func (c column) join(d column) column {
	joined := slices.Clone(c)
	for i := range joined {
		if d[i] > joined[i] {
			joined[i] = d[i]
		}
	}
	return joined
}

func (c column) turned(from, to int) column {
	turned := slices.Clone(c)
	for i := range turned {
		if turned[i] == from {
			turned[i] = to
		}
	}
	return turned
}

func (c column) raise() column { return c.turned(0, 5) }
func (c column) lower() column { return c.turned(5, 0) }

func rightByWords(l api.Label) bool {
	if l.Def < 1 || l.Def > 4 || len(l.Cats) > 6 {
		return false
	}
	for i, c := range l.Cats {
		if c.Level == l.Def || c.Level < 0 || c.Level > 4 || c.ID < 1 || c.ID > 1<<61-1 || i > 0 && c.ID <= l.Cats[i-1].ID {
			return false
		}
	}
	return true
}

func pureByWords(l api.Label) bool {
	is := l.Def != 0
	for _, c := range l.Cats {
		is = is && c.Level != 0
	}
	return is
}

func readsByWords(w Who, l api.Label) []word {
	c := columns(w.Label, l)
	return []word{{lRaise, c[1].leq(c[0].raise())}}
}

func writesByWords(w Who, l api.Label) []word {
	c := columns(w.Label, l)
	return append(readsByWords(w, l), word{labelL, c[0].leq(c[1])})
}

func makesByWords(w Who, l api.Label) []word {
	return append(taintsByWords(w, l), word{lPure, pureByWords(l)})
}

func spawnsByWords(w Who, l, clear api.Label) []word {
	c := columns(w.Label, w.Clear, l, clear)
	return []word{
		{lRight, rightByWords(l)}, {clearRight, rightByWords(clear)}, {clearPure, pureByWords(clear)},
		{labelL, c[0].leq(c[2])}, {lClear, c[2].leq(c[3])}, {clearOver, c[3].leq(c[1])},
	}
}

func taintsByWords(w Who, l api.Label) []word {
	c := columns(w.Label, w.Clear, l)
	return []word{{lRight, rightByWords(l)}, {labelL, c[0].leq(c[2])}, {lClearance, c[2].leq(c[1])}}
}

func clearsByWords(w Who, clear api.Label) []word {
	c := columns(w.Label, w.Clear, clear)
	return []word{
		{clearRight, rightByWords(clear)}, {clearPure, pureByWords(clear)},
		{labelClear, c[0].leq(c[2])}, {clearJoin, c[2].leq(c[1].join(c[0].raise()))},
	}
}

func entersByWords(w, gate, next Who) []word {
	c := columns(w.Label, w.Clear, gate.Label, gate.Clear, next.Label, next.Clear)
	least := c[0].raise().join(c[2].raise()).lower()
	return []word{
		{nextRight, rightByWords(next.Label)}, {nextClearOK, rightByWords(next.Clear)}, {nextPure, pureByWords(next.Clear)},
		{labelGate, c[0].leq(c[3])}, {leastLabel, least.leq(c[4])}, {nextOver, c[4].leq(c[5])},
		{nextClears, c[5].leq(c[1].join(c[3]))},
	}
}

// six is what all calls together can be asked about: a thread, a gate, and what it would become.
type six struct{ w, gate, next Who }

// asks: each call with its words; l, where there is one, is next's label, and clear next's clearance.
func asks() map[string]func(s six) (bool, []word) {
	return map[string]func(s six) (bool, []word){
		"Reads":  func(s six) (bool, []word) { return Reads(s.w, s.next.Label), readsByWords(s.w, s.next.Label) },
		"Writes": func(s six) (bool, []word) { return Writes(s.w, s.next.Label), writesByWords(s.w, s.next.Label) },
		"Makes":  func(s six) (bool, []word) { return Makes(s.w, s.next.Label), makesByWords(s.w, s.next.Label) },
		"Spawns": func(s six) (bool, []word) {
			return Spawns(s.w, s.next.Label, s.next.Clear), spawnsByWords(s.w, s.next.Label, s.next.Clear)
		},
		"Taints": func(s six) (bool, []word) { return Taints(s.w, s.next.Label), taintsByWords(s.w, s.next.Label) },
		"Clears": func(s six) (bool, []word) { return Clears(s.w, s.next.Clear), clearsByWords(s.w, s.next.Clear) },
		"Enters": func(s six) (bool, []word) { return Enters(s.w, s.gate, s.next), entersByWords(s.w, s.gate, s.next) },
	}
}

// wantAsked holds some of the calls against their words, and counts the answers.
func wantAsked(t *testing.T, s six, told map[string][2]int, names ...string) {
	t.Helper()
	calls := asks()
	for _, name := range names {
		got, words := calls[name](s)
		if got != (broken(words) == "") {
			t.Fatalf("%s of %v: %v, where this is broken: %q", name, s, got, broken(words))
		}
		count := told[name]
		if got {
			count[1]++
		} else {
			count[0]++
		}
		told[name] = count
	}
}

// wantBoth asks whether each of the calls was seen to say yes and no.
func wantBoth(t *testing.T, told map[string][2]int, least int, names ...string) {
	t.Helper()
	for _, name := range names {
		if told[name][0] < least || told[name][1] < least {
			t.Errorf("%s said no %d times, yes %d times: too few to tell", name, told[name][0], told[name][1])
		}
	}
}

// oneCat: all labels with these levels as Def, and no or one category.
func oneCat(levels ...int) []api.Label {
	var all []api.Label
	for _, def := range levels {
		all = append(all, of(def))
		for _, level := range levels {
			all = append(all, of(def, cat(7, level)))
		}
	}
	return all
}

// P10.1 to P10.3: all small labels.
func TestSmallLabels(t *testing.T) {
	labels := oneCat(-1, 0, 1, 2, 4, 5)
	told := map[string][2]int{}
	for _, l := range labels {
		for _, clear := range labels {
			for _, asked := range labels {
				s := six{w: Who{l, clear}, next: Who{asked, asked}}
				wantAsked(t, s, told, "Reads", "Writes", "Makes", "Taints", "Clears")
			}
		}
	}
	wantBoth(t, told, 50, "Reads", "Writes", "Makes", "Taints", "Clears")
}

// P10.2: one category at all levels, and Def at all levels.
func TestSpawnsAtAllLevels(t *testing.T) {
	told := map[string][2]int{}
	for i := range 8 * 8 * 8 * 8 {
		level := func(place int) int { return i>>(3*place)&7 - 1 }
		for _, at := range []func(level int) api.Label{atCategory, atDef} {
			s := six{w: Who{at(level(0)), at(level(1))}, next: Who{at(level(2)), at(level(3))}}
			wantAsked(t, s, told, "Spawns")
		}
	}
	wantBoth(t, told, 50, "Spawns")
}

// atCategory: the category 7 at this level, in Make's form.
func atCategory(level int) api.Label {
	if level == api.Plain {
		return of(api.Plain)
	}
	return of(api.Plain, cat(7, level))
}

// atDef: all but the category 7, which is at Low, at this level.
func atDef(level int) api.Label {
	if level == api.Low {
		return of(api.Low)
	}
	return of(level, cat(7, api.Low))
}

// P10.4: one category at all levels, in a thread, a gate and what it becomes.
func TestEntersAtAllLevels(t *testing.T) {
	told := map[string][2]int{}
	for i := range 6 * 6 * 6 * 6 * 6 * 6 {
		var at [6]api.Label
		for place, rest := 0, i; place < 6; place, rest = place+1, rest/6 {
			at[place] = atCategory(rest % 6)
		}
		wantAsked(t, six{Who{at[0], at[1]}, Who{at[2], at[3]}, Who{at[4], at[5]}}, told, "Enters")
	}
	wantBoth(t, told, 1000, "Enters")
}

// drawnLabel: a label that is near another one: some of its levels are drawn anew, those between least and most.
func drawnLabel(r *rand.Rand, near api.Label, least, most int) api.Label {
	l := of(near.Def, slices.Clone(near.Cats)...)
	draw := func() int { return least + r.Intn(most-least+1) }
	if r.Intn(3) == 0 {
		l.Def = draw()
	}
	for i := range l.Cats {
		if r.Intn(3) == 0 {
			l.Cats[i].Level = draw()
		}
	}
	if r.Intn(3) == 0 {
		ids := []uint64{1, 2, 3, 4, 5, 6, 7, 8, api.MaxCat}
		l.Cats = append(l.Cats, cat(ids[r.Intn(len(ids))], draw()))
	}
	return l
}

// spoiled: now and then a label that isn't of Make's form, or with IDs and levels that no thing's label has.
func spoiled(r *rand.Rand, l api.Label) api.Label {
	ids := []uint64{0, 3, api.MaxCat, api.MaxCat + 1, greatest}
	levels := []int{math.MinInt, -1, 0, 2, 5, 6, math.MaxInt}
	l.Cats = slices.Clone(l.Cats)
	switch r.Intn(6) {
	case 0:
		r.Shuffle(len(l.Cats), func(i, j int) { l.Cats[i], l.Cats[j] = l.Cats[j], l.Cats[i] })
	case 1:
		l.Cats = append(l.Cats, cat(ids[r.Intn(len(ids))], levels[r.Intn(len(levels))]))
	case 2:
		l.Cats = slices.Insert(l.Cats, 0, cat(ids[r.Intn(len(ids))], levels[r.Intn(len(levels))]))
	case 3:
		l.Def = levels[r.Intn(len(levels))]
	case 4:
		if len(l.Cats) > 0 {
			l.Cats = append(l.Cats, l.Cats[r.Intn(len(l.Cats))])
			l.Cats[r.Intn(len(l.Cats))].Level = l.Def
		}
	}
	return l
}

// tidy: the same LEVELs in Make's form.
func tidy(l api.Label) api.Label {
	c := of(l.Def)
	for _, each := range l.Cats {
		if levelByWords(l, each.ID) != l.Def && !slices.ContainsFunc(c.Cats, func(x api.Cat) bool { return x.ID == each.ID }) {
			c.Cats = append(c.Cats, each)
		}
	}
	slices.SortFunc(c.Cats, func(x, y api.Cat) int {
		if x.ID < y.ID {
			return -1
		}
		return 1
	})
	return c
}

// drawnSix: labels that are near each other, low ones for labels and high ones for clearances.
func drawnSix(r *rand.Rand) six {
	base := of(api.Plain)
	for range r.Intn(3) {
		base = drawnLabel(r, base, 0, 4)
	}
	low := func() api.Label { return tidy(drawnLabel(r, base, 0, 2)) }
	high := func() api.Label { return tidy(drawnLabel(r, base, 2, 4)) }
	return six{Who{low(), high()}, Who{low(), high()}, Who{tidy(drawnLabel(r, base, 0, 4)), high()}}
}

// P10.1 to P10.4: labels drawn at random, of Make's form and not.
func TestDrawnLabels(t *testing.T) {
	all := []string{"Reads", "Writes", "Makes", "Spawns", "Taints", "Clears", "Enters"}
	r := rand.New(rand.NewSource(10))
	neat, torn := map[string][2]int{}, map[string][2]int{}
	for range 30000 {
		s := drawnSix(r)
		wantAsked(t, s, neat, all...)
		for _, l := range []*api.Label{&s.w.Label, &s.w.Clear, &s.gate.Label, &s.gate.Clear, &s.next.Label, &s.next.Clear} {
			if r.Intn(2) == 0 {
				*l = spoiled(r, *l)
			}
		}
		wantAsked(t, s, torn, all...)
	}
	wantBoth(t, neat, 500, all...)
	wantBoth(t, torn, 300, all...)
}
