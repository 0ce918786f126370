package graph

import (
	"cmp"
	"maps"
	"math/rand"
	"slices"
	"strings"
	"testing"

	"bailey/api"
	"bailey/thing"
)

// lastID is the greatest name that a thing may have: 2^48 - 1.
const lastID = uint64(281474976710655)

var plain = api.Label{Def: api.Plain}

func link(id uint64, quota int) api.Link { return api.Link{ID: id, Quota: quota} }

// dirOf: a directory that gave so many names.
func dirOf(id uint64, quota, next int, links ...api.Link) api.Thing {
	return api.Thing{ID: id, Kind: api.Dir, Label: plain, Quota: quota, Next: next, Links: links}
}

// segOf: a segment; its quota is one more than it has pages.
func segOf(id uint64, pages int) api.Thing {
	return api.Thing{ID: id, Kind: api.Segment, Label: plain, Quota: 1 + pages, Data: make([]byte, 32*pages)}
}

// deviceOf: a device; its quota is 1.
func deviceOf(id uint64) api.Thing {
	return api.Thing{ID: id, Kind: api.Device, Label: plain, Quota: 1}
}

// The names of the things of tree.
const (
	root   = uint64(1)
	house  = root*64 + 1  // 65
	lone   = root*64 + 2  // 66
	shared = root*64 + 3  // 67
	room   = house*64 + 1 // 4161
	book   = house*64 + 2 // 4162
	shelf  = room*64 + 1  // 266305
	box    = shelf*64 + 1 // 17043521
)

// tree: a SOUND GRAPH: directories in one another, things that one of them links, and some that several do.
func tree() []api.Thing {
	thread := api.Thing{
		ID: box, Kind: api.Thread, Quota: 1, Regs: [4]uint64{1, 2, 3, 4}, Boot: 3,
		Label: api.Label{Def: api.Plain, Cats: []api.Cat{{ID: 7, Level: api.Star}}},
		Clear: api.Label{Def: api.Plain, Cats: []api.Cat{{ID: 7, Level: api.Taint}, {ID: 9, Level: api.Low}}},
	}
	return []api.Thing{
		dirOf(root, 48, 5, link(house, 33), link(lone, 1), link(shared, 2), link(book, 3)),
		dirOf(house, 33, 3, link(shared, 2), link(room, 20), link(book, 3)),
		deviceOf(lone),
		segOf(shared, 1),
		dirOf(room, 20, 2, link(shared, 2), link(shelf, 6), link(box, 1)),
		segOf(book, 2),
		dirOf(shelf, 6, 1, link(shared, 2), link(box, 1)),
		thread,
	}
}

// at: where in a list the thing of an ID stands; -1, if it isn't there.
func at(g []api.Thing, id uint64) int {
	return slices.IndexFunc(g, func(t api.Thing) bool { return t.ID == id })
}

// with: the list with that thing of it changed; what was given may share nothing with it.
func with(g []api.Thing, id uint64, change func(x *api.Thing)) []api.Thing {
	g = plainCopies(g)
	change(&g[at(g, id)])
	return g
}

// without: the list without the things of these IDs.
func without(g []api.Thing, ids ...uint64) []api.Thing {
	return slices.DeleteFunc(plainCopies(g), func(t api.Thing) bool { return slices.Contains(ids, t.ID) })
}

// and: the list with one more thing, in its place.
func and(g []api.Thing, t api.Thing) []api.Thing { return putByWords(g, t) }

// linking: the list in which a directory has that link instead of any other of its ID.
func linking(g []api.Thing, holder uint64, l api.Link) []api.Thing {
	return with(unlinking(g, holder, l.ID), holder, func(x *api.Thing) {
		x.Links = append(x.Links, l)
		slices.SortFunc(x.Links, func(a, b api.Link) int { return cmp.Compare(a.ID, b.ID) })
	})
}

// unlinking: the list in which a directory has no link of that ID.
func unlinking(g []api.Thing, holder, id uint64) []api.Thing {
	return with(g, holder, func(x *api.Thing) {
		x.Links = slices.DeleteFunc(x.Links, func(l api.Link) bool { return l.ID == id })
	})
}

// giving: the list in which a directory has that Next.
func giving(g []api.Thing, holder uint64, next int) []api.Thing {
	return with(g, holder, func(x *api.Thing) { x.Next = next })
}

func plainCopy(t api.Thing) api.Thing {
	t.Label.Cats = append([]api.Cat(nil), t.Label.Cats...)
	t.Clear.Cats = append([]api.Cat(nil), t.Clear.Cats...)
	t.Links = append([]api.Link(nil), t.Links...)
	t.Data = append([]byte(nil), t.Data...)
	return t
}

func plainCopies(g []api.Thing) []api.Thing {
	var own []api.Thing
	for _, t := range g {
		own = append(own, plainCopy(t))
	}
	return own
}

// alike: the same things in the same order, held against each other one by one.
func alike(a, b []api.Thing) bool {
	if len(a) != len(b) {
		return false
	}
	for i := range a {
		if !thing.Same(a[i], b[i]) {
			return false
		}
	}
	return true
}

func idsOf(g []api.Thing) []uint64 {
	var ids []uint64
	for _, t := range g {
		ids = append(ids, t.ID)
	}
	return ids
}

// The chapter's words, told plainly.

// The words of SOUND, by the names that rows call them.
const (
	idsRise     = "the IDs rise"
	thingsRight = "each thing is Right"
	firstIsOne  = "the first has the ID 1"
	firstIsDir  = "the first is a Dir"
	linkThere   = "each link is of a thing that is there"
	linkQuota   = "with just its Quota"
	dirLinked   = "each Dir but the first is linked"
	dirOnce     = "not twice"
	dirByParent = "by the Dir whose ID is its ID over 64"
	otherLinked = "each other thing is linked"
	nameGiven   = "no thing has a name that a Dir is yet to give"
	underGiven  = "nor one under such a name"
)

// word is one of the words of SOUND, and whether it holds.
type word struct {
	name  string
	holds bool
}

// soundWords: all words of SOUND, of a list.
func soundWords(g []api.Thing) []word {
	rise, right := true, true
	for i, t := range g {
		for _, later := range g[i+1:] {
			rise = rise && t.ID < later.ID
		}
		right = right && thing.Right(t)
	}
	words := []word{
		{idsRise, rise},
		{thingsRight, right},
		{firstIsOne, len(g) > 0 && g[0].ID == 1},
		{firstIsDir, len(g) > 0 && g[0].Kind == 1},
	}
	words = append(words, linkWords(g)...)
	words = append(words, holderWords(g)...)
	return append(words, nameWords(g)...)
}

func linkWords(g []api.Thing) []word {
	there, quota := true, true
	for _, d := range g {
		if d.Kind != 1 {
			continue
		}
		for _, l := range d.Links {
			t, ok := findByWords(g, l.ID)
			there = there && ok
			quota = quota && (!ok || t.Quota == l.Quota)
		}
	}
	return []word{{linkThere, there}, {linkQuota, quota}}
}

func holderWords(g []api.Thing) []word {
	linked, once, parent, other := true, true, true, true
	for i, t := range g {
		holders := holdersOf(g, t.ID)
		switch {
		case i == 0:
		case t.Kind == 1:
			linked = linked && len(holders) > 0
			once = once && len(holders) < 2
			parent = parent && (len(holders) == 0 || slices.Contains(holders, t.ID>>6))
		default:
			other = other && len(holders) > 0
		}
	}
	return []word{{dirLinked, linked}, {dirOnce, once}, {dirByParent, parent}, {otherLinked, other}}
}

// holdersOf: the IDs of the directories that link an ID.
func holdersOf(g []api.Thing, id uint64) []uint64 {
	var ids []uint64
	for _, d := range g {
		if d.Kind != 1 {
			continue
		}
		if slices.Contains(linkedBy(d), id) {
			ids = append(ids, d.ID)
		}
	}
	return ids
}

func linkedBy(d api.Thing) []uint64 {
	var ids []uint64
	for _, l := range d.Links {
		ids = append(ids, l.ID)
	}
	return ids
}

func nameWords(g []api.Thing) []word {
	name, under := true, true
	for _, t := range g {
		for step, n := range above(t.ID) {
			d, ok := findByWords(g, n>>6)
			if given := !ok || d.Kind != 1 || int(n&63) <= d.Next; step == 0 {
				name = name && given
			} else {
				under = under && given
			}
		}
	}
	return []word{{nameGiven, name}, {underGiven, under}}
}

// above: the numbers ABOVE a thing of that ID, its ID first.
func above(id uint64) []uint64 {
	if id == 0 {
		return nil
	}
	return append([]uint64{id}, above(id>>6)...)
}

// broken: the words of SOUND that don't hold, with "; " between them.
func broken(g []api.Thing) string {
	var names []string
	for _, w := range soundWords(g) {
		if !w.holds {
			names = append(names, w.name)
		}
	}
	return strings.Join(names, "; ")
}

func findByWords(g []api.Thing, id uint64) (api.Thing, bool) {
	for _, t := range g {
		if t.ID == id {
			return t, true
		}
	}
	return api.Thing{}, false
}

func putByWords(g []api.Thing, t api.Thing) []api.Thing {
	by := map[uint64]api.Thing{}
	for _, x := range append(plainCopies(g), plainCopy(t)) {
		by[x.ID] = x
	}
	var all []api.Thing
	for _, id := range slices.Sorted(maps.Keys(by)) {
		all = append(all, by[id])
	}
	return all
}

// unlinked is what Unlink answers.
type unlinked struct {
	g    []api.Thing
	gone []uint64
	err  api.Errno
}

func asUnlink(g []api.Thing, holder, id uint64) unlinked {
	after, gone, err := Unlink(g, holder, id)
	return unlinked{after, gone, err}
}

func unlinkByWords(g []api.Thing, holder, id uint64) unlinked {
	d, ok := findByWords(g, holder)
	if !ok || d.Kind != 1 {
		return unlinked{g, nil, 131}
	}
	if !slices.Contains(linkedBy(d), id) {
		return unlinked{g, nil, 124}
	}
	after := unlinking(g, holder, id)
	var gone []uint64
	for {
		// The first one never was linked; all others were.
		i := slices.IndexFunc(after, func(t api.Thing) bool { return t.ID != 1 && len(holdersOf(after, t.ID)) == 0 })
		if i < 0 {
			slices.Sort(gone)
			return unlinked{after, gone, 0}
		}
		gone = append(gone, after[i].ID)
		after = slices.Delete(after, i, i+1)
	}
}

// The reasons for which Mend drops a link, in their order.
const (
	reasonThere = iota
	reasonQuota
	reasonParent
	noReason
)

func reasonToDrop(g []api.Thing, d api.Thing, l api.Link) int {
	t, ok := findByWords(g, l.ID)
	switch {
	case !ok:
		return reasonThere
	case t.Quota != l.Quota:
		return reasonQuota
	case t.Kind == 1 && t.ID>>6 != d.ID:
		return reasonParent
	}
	return noReason
}

func mendByWords(g []api.Thing) []api.Thing {
	after := plainCopies(g)
	for i, d := range g {
		after[i].Links = slices.DeleteFunc(after[i].Links, func(l api.Link) bool { return reasonToDrop(g, d, l) != noReason })
	}
	after = reachable(after)
	for i, d := range after {
		if d.Kind != 1 {
			continue
		}
		for _, t := range after {
			for _, n := range above(t.ID) {
				if n>>6 == d.ID && int(n&63) > after[i].Next {
					after[i].Next = int(n & 63)
				}
			}
		}
	}
	return after
}

// reachable: the things that can be reached from 1, told by going through them again and again.
func reachable(g []api.Thing) []api.Thing {
	reached := map[uint64]bool{1: true}
	for before := 0; before != len(reached); {
		before = len(reached)
		for _, d := range g {
			if !reached[d.ID] {
				continue
			}
			for _, id := range linkedBy(d) {
				reached[id] = true
			}
		}
	}
	return slices.DeleteFunc(g, func(t api.Thing) bool { return !reached[t.ID] })
}

// Each call held against the words.

// wantSound asks whether a list breaks just these words (none, if it is empty), and whether Sound says no if there is one.
func wantSound(t *testing.T, name string, g []api.Thing, breaks string) {
	t.Helper()
	if broken(g) != breaks {
		t.Errorf("%s: the row breaks %q, not %q: %+v", name, broken(g), breaks, g)
	}
	if got := Sound(g); got != (breaks == "") {
		t.Errorf("%s: Sound tells %v, where this is broken: %q", name, got, breaks)
	}
}

// wantUnlink holds an answer of a SOUND GRAPH against the one that is wanted.
func wantUnlink(t *testing.T, name string, got, want unlinked) {
	t.Helper()
	if !alike(got.g, want.g) || !slices.Equal(got.gone, want.gone) || got.err != want.err {
		t.Errorf("%s: %v, gone %v, %d, not %v, gone %v, %d (%+v, not %+v)",
			name, idsOf(got.g), got.gone, got.err, idsOf(want.g), want.gone, want.err, got.g, want.g)
	}
	wantSound(t, name+", behind it", got.g, "")
}

// wantMend asks for what Mend makes of things that are Right: that it is SOUND, and mended again the same.
func wantMend(t *testing.T, name string, g, want []api.Thing) {
	t.Helper()
	got := Mend(g)
	if !alike(got, want) {
		t.Errorf("%s: %v, not %v (%+v, not %+v)", name, idsOf(got), idsOf(want), got, want)
	}
	wantSound(t, name+", mended", got, "")
	if again := Mend(got); !alike(again, got) {
		t.Errorf("%s: mended again it is %+v, not %+v", name, again, got)
	}
}

// wantWords holds Find, Put, Refs and Same of a GRAPH, and Sound of it, against the words.
func wantWords(t *testing.T, g []api.Thing, ids []uint64) {
	t.Helper()
	wantSound(t, "of all words", g, broken(g))
	for _, id := range ids {
		x, ok := Find(g, id)
		if want, there := findByWords(g, id); !thing.Same(x, want) || ok != there {
			t.Errorf("Find of %d in %v: %+v, %v", id, idsOf(g), x, ok)
		}
		if got := Refs(g, id); got != len(holdersOf(g, id)) {
			t.Errorf("Refs of %d in %+v: %d", id, g, got)
		}
		d := dirOf(id, 7, 3, link(9, 2))
		if got := Put(g, d); !alike(got, putByWords(g, d)) {
			t.Errorf("Put of %d into %v: %+v", id, idsOf(g), got)
		}
	}
	if !Same(g, plainCopies(g)) {
		t.Errorf("%+v isn't the same as itself", g)
	}
}

// pick: one of some.
func pick[T any](r *rand.Rand, some ...T) T { return some[r.Intn(len(some))] }
