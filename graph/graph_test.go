package graph

import (
	"math"
	"slices"
	"testing"

	"bailey/api"
	"bailey/thing"
)

// someIDs: those of the list, what is next to them, and far ones.
func someIDs(g []api.Thing) []uint64 {
	ids := []uint64{0, 1, 2, 63, 64, lastID, lastID + 1, 1 << 63, math.MaxUint64}
	for _, t := range g {
		ids = append(ids, t.ID, t.ID-1, t.ID+1, t.ID+1<<32, t.ID+1<<48, t.ID>>6, t.ID<<6|1)
	}
	slices.Sort(ids)
	return slices.Compact(ids)
}

// graphs: lists that are GRAPHs, SOUND or not, and with things that aren't Right, too.
func graphs() map[string][]api.Thing {
	odd := dirOf(70, -5, 900, link(66, 1), link(65, 2), link(66, 3), link(0, -1), link(math.MaxUint64, 0))
	return map[string][]api.Thing{
		"none":            nil,
		"one":             {dirOf(1, 48, 0)},
		"tree":            tree(),
		"no first":        without(tree(), root),
		"none of kind 1":  {deviceOf(2), segOf(3, 4), deviceOf(lastID)},
		"the zero thing":  {{}},
		"any IDs":         {{}, deviceOf(1), deviceOf(lastID + 1), deviceOf(math.MaxUint64)},
		"links that fall": and(tree(), odd),
		"links of no Dir": and(tree(), api.Thing{ID: 70, Kind: api.Device, Links: []api.Link{link(66, 1), link(67, 2)}}),
		"links of kind 0": {{ID: 5, Links: []api.Link{link(5, 1)}}, {ID: 6, Kind: 7, Links: []api.Link{link(5, 1)}}},
	}
}

// P13.1: all calls of GRAPHs, of IDs that are there, and of those next to them.
func TestWords(t *testing.T) {
	for _, g := range graphs() {
		wantWords(t, g, someIDs(g))
	}
}

// P13.1
func TestFind(t *testing.T) {
	g := tree()
	for _, id := range []uint64{root, house, lone, shared, room, book, shelf, box} {
		x, ok := Find(g, id)
		if !ok || x.ID != id || !thing.Same(x, g[at(g, id)]) {
			t.Errorf("Find of %d tells %+v, %v", id, x, ok)
		}
	}
	for name, id := range map[string]uint64{"below": 0, "behind the first": 2, "between": 68, "ahead of the last": box - 1, "above": box + 1, "far above": math.MaxUint64} {
		if x, ok := Find(g, id); ok || !thing.Same(x, api.Thing{}) {
			t.Errorf("Find of %d, %s, tells %+v, %v", id, name, x, ok)
		}
	}
	for _, none := range [][]api.Thing{nil, {}} {
		if x, ok := Find(none, 0); ok || !thing.Same(x, api.Thing{}) {
			t.Errorf("Find in no things tells %+v, %v", x, ok)
		}
	}
	if x, ok := Find(without(g, root), root); ok || !thing.Same(x, api.Thing{}) {
		t.Errorf("Find of what was below all tells %+v, %v", x, ok)
	}
}

// P13.1
func TestPut(t *testing.T) {
	two, five, nine := deviceOf(2), dirOf(5, 7, 3, link(9, 1)), segOf(9, 2)
	g := []api.Thing{two, five, nine}
	for name, row := range map[string]struct {
		g    []api.Thing
		t    api.Thing
		want []api.Thing
	}{
		"ahead of all":                   {g, deviceOf(1), []api.Thing{deviceOf(1), two, five, nine}},
		"ahead of all, the least":        {g, deviceOf(0), []api.Thing{deviceOf(0), two, five, nine}},
		"behind the first":               {g, deviceOf(3), []api.Thing{two, deviceOf(3), five, nine}},
		"ahead of the last":              {g, segOf(8, 1), []api.Thing{two, five, segOf(8, 1), nine}},
		"behind all":                     {g, deviceOf(10), []api.Thing{two, five, nine, deviceOf(10)}},
		"behind all, the most":           {g, deviceOf(math.MaxUint64), []api.Thing{two, five, nine, deviceOf(math.MaxUint64)}},
		"into none":                      {nil, five, []api.Thing{five}},
		"into an empty list":             {[]api.Thing{}, nine, []api.Thing{nine}},
		"in the place of the first":      {g, segOf(2, 4), []api.Thing{segOf(2, 4), five, nine}},
		"in the place of one between":    {g, dirOf(5, 7, 4), []api.Thing{two, dirOf(5, 7, 4), nine}},
		"in the place of the last":       {g, deviceOf(9), []api.Thing{two, five, deviceOf(9)}},
		"in the place of the only one":   {[]api.Thing{five}, deviceOf(5), []api.Thing{deviceOf(5)}},
		"in its own place":               {g, five, g},
		"the zero thing":                 {g, api.Thing{}, []api.Thing{{}, two, five, nine}},
		"the zero thing into none":       {nil, api.Thing{}, []api.Thing{{}}},
		"another one with the zero ID":   {[]api.Thing{{}, two}, deviceOf(0), []api.Thing{deviceOf(0), two}},
		"what isn't Right, in its place": {g, dirOf(5, -7, -3, link(9, 1), link(2, 5)), []api.Thing{two, dirOf(5, -7, -3, link(9, 1), link(2, 5)), nine}},
	} {
		if got := Put(row.g, row.t); !alike(got, row.want) {
			t.Errorf("%s: %+v, not %+v", name, got, row.want)
		}
	}
	var all []api.Thing
	for _, id := range []uint64{5, 1, 9, 7, 3, 8, 2, 6, 4} {
		all = Put(all, deviceOf(id))
	}
	if !slices.Equal(idsOf(all), []uint64{1, 2, 3, 4, 5, 6, 7, 8, 9}) {
		t.Errorf("one behind the other: %v", idsOf(all))
	}
}

// P13.1
func TestRefs(t *testing.T) {
	g := tree()
	for id, want := range map[uint64]int{root: 0, house: 1, lone: 1, shared: 4, room: 1, book: 2, shelf: 1, box: 2, 0: 0, 68: 0, lastID: 0, math.MaxUint64: 0} {
		if got := Refs(g, id); got != want {
			t.Errorf("Refs of %d: %d, not %d", id, got, want)
		}
	}
	if Refs(nil, 1) != 0 || Refs(nil, 0) != 0 {
		t.Error("Refs of no things")
	}
	if got := Refs(without(g, shared), shared); got != 4 {
		t.Errorf("Refs of what isn't there: %d", got)
	}
	own := []api.Thing{dirOf(3, 9, 0, link(3, 1)), dirOf(4, 9, 0, link(3, 5)), dirOf(5, 9, 0, link(4, 3))}
	if got := Refs(own, 3); got != 2 {
		t.Errorf("Refs of what links itself, too: %d", got)
	}
	all := []api.Thing{}
	for id := range uint64(300) {
		all = append(all, dirOf(id+1, 9, 0, link(7, 1)))
	}
	if got := Refs(all, 7); got != 300 {
		t.Errorf("Refs of what 300 directories link: %d", got)
	}
	// It is asked how many directories: so of none but a Dir, and of each once, in whatever order its links are.
	odd := []api.Thing{
		dirOf(1, 0, 0, link(9, 1), link(8, 1), link(7, 1)), dirOf(2, 0, 0, link(7, 1), link(7, 2), link(7, 3)),
		{ID: 3, Kind: api.Device, Links: []api.Link{link(7, 1)}}, {ID: 4, Links: []api.Link{link(7, 1)}},
	}
	if got := Refs(odd, 7); got != 2 {
		t.Errorf("Refs in things of any form: %d", got)
	}
}

// P13.1
func TestSame(t *testing.T) {
	g := tree()
	for name, row := range map[string]struct {
		a, b []api.Thing
		want bool
	}{
		"none":                   {nil, nil, true},
		"none, nil and empty":    {nil, []api.Thing{}, true},
		"like":                   {g, tree(), true},
		"one":                    {g[:1], tree()[:1], true},
		"empty lists in them":    {[]api.Thing{{ID: 1, Links: []api.Link{}}}, []api.Thing{{ID: 1, Data: []byte{}}}, true},
		"none and one":           {nil, g[:1], false},
		"none and the zero":      {nil, []api.Thing{{}}, false},
		"one more":               {g, append(tree(), deviceOf(lastID)), false},
		"one less":               {g, tree()[:len(g)-1], false},
		"without the first":      {g, tree()[1:], false},
		"twice the last":         {g, append(tree(), tree()[len(g)-1]), false},
		"in another order":       {g[1:3], []api.Thing{g[2], g[1]}, false},
		"another ID":             {g, with(g, lone, func(x *api.Thing) { x.ID = 64 }), false},
		"the first is another":   {g, giving(g, root, 6), false},
		"one between is another": {g, with(g, shared, func(x *api.Thing) { x.Data[31] = 1 }), false},
		"the last is another":    {g, with(g, box, func(x *api.Thing) { x.Regs[3]++ }), false},
		"another link":           {g, linking(g, shelf, link(box, 2)), false},
		"another Cat":            {g, with(g, box, func(x *api.Thing) { x.Clear.Cats[1].Level = api.Mild }), false},
		"another Star":           {g, with(g, box, func(x *api.Thing) { x.Label.Cats[0].ID = 8 }), false},
	} {
		if Same(row.a, row.b) != row.want || Same(row.b, row.a) != row.want {
			t.Errorf("%s: not %v", name, row.want)
		}
	}
}
