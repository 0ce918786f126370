package graph

import (
	"slices"
	"testing"

	"bailey/api"
)

// spare: the list with room behind it, in which something stands: if it is another, somebody wrote there.
func spare[T any](l []T, mark T) []T {
	all := append(append([]T(nil), l...), mark, mark, mark)
	return all[:len(l)]
}

// roomy: the thing with spare room behind each of its lists.
func roomy(t api.Thing) api.Thing {
	t.Label.Cats = spare(t.Label.Cats, api.Cat{ID: 4242, Level: -4242})
	t.Clear.Cats = spare(t.Clear.Cats, api.Cat{ID: 4243, Level: -4243})
	t.Links = spare(t.Links, link(4242, -4242))
	t.Data = spare(t.Data, 242)
	return t
}

// roomyAll: the list with spare room behind it, and behind all lists in it.
func roomyAll(g []api.Thing) []api.Thing {
	var all []api.Thing
	for _, t := range g {
		all = append(all, roomy(t))
	}
	return spare(all, roomy(api.Thing{ID: 4242, Kind: -42, Next: 4242}))
}

// whole: a copy of the list and of all lists in it, spare room included.
func whole(g []api.Thing) []api.Thing {
	var all []api.Thing
	for _, t := range g[:cap(g)] {
		t.Label.Cats = t.Label.Cats[:cap(t.Label.Cats)]
		t.Clear.Cats = t.Clear.Cats[:cap(t.Clear.Cats)]
		t.Links = t.Links[:cap(t.Links)]
		t.Data = t.Data[:cap(t.Data)]
		all = append(all, plainCopy(t))
	}
	return all
}

// fill writes over all of a list, spare room too.
func fill[T any](l []T, with T) {
	all := l[:cap(l)]
	for i := range all {
		all[i] = with
	}
}

// scrawls: each of them writes over one list of a thing, spare room too.
func scrawls() []func(x *api.Thing) {
	return []func(x *api.Thing){
		func(x *api.Thing) { fill(x.Label.Cats, api.Cat{ID: 666, Level: 666}) },
		func(x *api.Thing) { fill(x.Clear.Cats, api.Cat{ID: 667, Level: 667}) },
		func(x *api.Thing) { fill(x.Links, link(666, 666)) },
		func(x *api.Thing) { fill(x.Data, 66) },
	}
}

// scrawl writes over all lists in a list, and over it.
func scrawl(g []api.Thing) {
	for i := range g[:cap(g)] {
		for _, over := range scrawls() {
			over(&g[:cap(g)][i])
		}
	}
	fill(g, api.Thing{ID: 666, Kind: 666})
}

// laden: a SOUND GRAPH in which each list that a thing may have has something in it.
func laden() []api.Thing {
	g := tree()
	for i := range g {
		if g[i].Kind != api.Thread {
			g[i].Label.Cats = []api.Cat{{ID: 5, Level: api.Taint}, {ID: 6, Level: api.Low}}
		}
	}
	return g
}

// tangled: the same, but its things have their lists in one piece of memory.
func tangled() []api.Thing {
	g := laden()
	data := make([]byte, 200)
	for i := range g {
		g[i].Label.Cats, g[i].Clear.Cats = g[1].Label.Cats, g[7].Clear.Cats[:len(g[i].Clear.Cats)]
		g[i].Data = data[:len(g[i].Data)]
	}
	g[7].Label.Cats = g[7].Clear.Cats[1:]
	links := slices.Concat(g[0].Links, g[1].Links, g[4].Links, g[6].Links)
	for _, i := range []int{0, 1, 4, 6} {
		n := len(g[i].Links)
		g[i].Links, links = links[:n], links[n:]
	}
	return g
}

// deeds: the calls that answer lists, with each of their ends. (Put has the thing it puts from the list itself.)
func deeds() map[string]func(g []api.Thing) unlinked {
	unlink := func(holder, id uint64) func(g []api.Thing) unlinked {
		return func(g []api.Thing) unlinked { return asUnlink(g, holder, id) }
	}
	find := func(id uint64) func(g []api.Thing) unlinked {
		return func(g []api.Thing) unlinked {
			x, _ := Find(g, id)
			return unlinked{g: []api.Thing{x}}
		}
	}
	put := func(i int, id uint64) func(g []api.Thing) unlinked {
		return func(g []api.Thing) unlinked {
			x := g[i]
			x.ID = id
			return unlinked{g: Put(g, x)}
		}
	}
	mend := func(g []api.Thing) unlinked { return unlinked{g: Mend(g)} }
	return map[string]func(g []api.Thing) unlinked{
		"Find of the first":             find(root),
		"Find of a segment":             find(shared),
		"Find of the last":              find(box),
		"Find of nothing":               find(older),
		"Put ahead":                     put(1, 0),
		"Put between":                   put(7, older),
		"Put behind":                    put(3, lastID),
		"Put in the place of itself":    put(1, house),
		"Put in the place of another":   put(7, root),
		"Put in the place of the last":  put(0, box),
		"Unlink of nothing":             unlink(root, older),
		"Unlink in nothing":             unlink(older, house),
		"Unlink in a device":            unlink(lone, house),
		"Unlink, nothing gone":          unlink(root, book),
		"Unlink, the first link":        unlink(house, shared),
		"Unlink, the last link":         unlink(room, box),
		"Unlink, one gone":              unlink(root, lone),
		"Unlink, all within gone":       unlink(root, house),
		"Unlink, the last things gone":  unlink(house, room),
		"Mend of what is SOUND":         mend,
		"Mend of what lacks one":        func(g []api.Thing) unlinked { return mend(append(g[:2:2], g[3:]...)) },
		"Mend of what lacks the last":   func(g []api.Thing) unlinked { return mend(g[:7]) },
		"Mend of the first alone":       func(g []api.Thing) unlinked { return mend(g[:1]) },
		"Mend of what can't be reached": func(g []api.Thing) unlinked { return mend(append(g[:1:1], g[2:]...)) },
		"Mend of nothing":               func(g []api.Thing) unlinked { return mend(g[:0]) },
	}
}

// lists: what the deeds are done with.
func lists() map[string]func() []api.Thing {
	return map[string]func() []api.Thing{
		"laden":        laden,
		"laden, roomy": func() []api.Thing { return roomyAll(laden()) },
		"tangled":      tangled,
		"tree":         tree,
		"tree, roomy":  func() []api.Thing { return roomyAll(tree()) },
	}
}

// P2, P13.1 to P13.3: no call changes or keeps what it was handed, spare room included; what it answers is new, and the same if it is asked again.
func TestMemory(t *testing.T) {
	for name, deed := range deeds() {
		for kind, list := range lists() {
			g := list()
			before := whole(g)
			first, second := deed(g), deed(g)
			told, gone := whole(first.g), slices.Clone(first.gone)
			if !alike(whole(g), before) {
				t.Errorf("%s of %s: what was handed in is %+v, not %+v", name, kind, whole(g), before)
			}
			scrawl(second.g)
			fill(second.gone, 666)
			if !alike(whole(g), before) {
				t.Errorf("%s of %s: an answer is written over, and so is what was handed in: %+v", name, kind, whole(g))
			}
			if !alike(whole(first.g), told) || !slices.Equal(first.gone, gone) {
				t.Errorf("%s of %s: an answer is written over, and so is another: %+v, %v", name, kind, first.g, first.gone)
			}
			scrawl(g)
			if !alike(whole(first.g), told) {
				t.Errorf("%s of %s: what was handed in is written over, and so is the answer: %+v", name, kind, first.g)
			}
			again := deed(list())
			if !alike(again.g, first.g) || !slices.Equal(again.gone, gone) || again.err != first.err {
				t.Errorf("%s of %s: asked again %+v, not %+v", name, kind, again, first)
			}
		}
	}
}

// P13.1 to P13.3: no two lists of one answer share memory, spare room included.
func TestMemoryOfOneAnswer(t *testing.T) {
	for name, deed := range deeds() {
		for kind, list := range lists() {
			for i := range deed(list()).g {
				for _, over := range scrawls() {
					a := deed(list())
					want := whole(a.g)
					over(&a.g[i])
					over(&want[i])
					if !alike(whole(a.g), want) {
						t.Errorf("%s of %s: a list of the thing %d is written over, and so is another: %+v, not %+v", name, kind, i, whole(a.g), want)
					}
				}
			}
		}
	}
}

// P2, P13.1: nor do those that only tell change anything, or say something else if they are asked again.
func TestMemoryOfAsking(t *testing.T) {
	for kind, list := range lists() {
		g, same := list(), list()
		before := whole(g)
		for range 2 {
			if !Sound(g) || !Same(g, same) || !Same(same, g) || Same(g, g[1:]) || Refs(g, shared) != 4 || Refs(g, older) != 0 {
				t.Errorf("%s: %v, %v, %v, %v, %d, %d", kind, Sound(g), Same(g, same), Same(same, g), Same(g, g[1:]), Refs(g, shared), Refs(g, older))
			}
		}
		if !alike(whole(g), before) || !alike(whole(same), before) {
			t.Errorf("%s: what was handed in is %+v and %+v, not %+v", kind, whole(g), whole(same), before)
		}
	}
}
