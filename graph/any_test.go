package graph

import (
	"cmp"
	"math"
	"math/rand"
	"slices"
	"strconv"
	"testing"

	"bailey/api"
)

// oddThings: things that aren't Right, with links of any number and any Quotas.
func oddThings() []api.Thing {
	all := []api.Thing{{}, {ID: 1}, {Kind: api.Dir}, {ID: math.MaxUint64, Kind: api.Dir}}
	for _, kind := range []int{math.MinInt, -1, 0, api.Dir, api.Segment, 7, math.MaxInt} {
		for _, n := range []int{math.MinInt, -1, 0, 1, 48, 64, math.MaxInt} {
			for _, id := range []uint64{0, 1, 65, 4161, lastID, lastID + 1, math.MaxUint64} {
				all = append(all,
					api.Thing{ID: id, Kind: kind, Quota: n, Next: n, Links: []api.Link{link(4161, n), link(65, n), link(65, 1), link(0, n), link(1, n), link(math.MaxUint64, n)}},
					api.Thing{ID: id, Kind: kind, Quota: n, Next: n, Links: slices.Repeat([]api.Link{link(id, n)}, 30), Data: make([]byte, 7), Label: api.Label{Def: n}})
			}
		}
	}
	return all
}

// rings: directories that link one another.
func rings() map[string][]api.Thing {
	many := []api.Thing{dirOf(1, 48, 0, link(2, 1))}
	for id := uint64(2); id < 20000; id++ {
		many = append(many, dirOf(id, 1, 0, link(id-1, 48), link(id, 1), link(id+1, 1)))
	}
	all := []api.Thing{}
	for id := range uint64(100) {
		d := dirOf(id+1, 1, 0)
		for other := range uint64(100) {
			d.Links = append(d.Links, link(other+1, 1))
		}
		all = append(all, d)
	}
	return map[string][]api.Thing{
		"one":                 {dirOf(1, 1, 0, link(1, 1))},
		"of the ID 0":         {dirOf(0, 1, 0, link(0, 1)), dirOf(1, 1, 0, link(0, 1))},
		"two":                 {dirOf(1, 1, 1, link(65, 1)), dirOf(65, 1, 0, link(1, 1))},
		"two, not the first":  {dirOf(1, 48, 2, link(65, 1)), dirOf(65, 1, 1, link(4161, 1)), dirOf(4161, 1, 0, link(65, 1))},
		"two, out of reach":   {dirOf(1, 48, 2), dirOf(65, 1, 1, link(4161, 1)), dirOf(4161, 1, 0, link(65, 1))},
		"through a device":    {dirOf(1, 48, 2, link(65, 1)), {ID: 65, Kind: api.Device, Quota: 1, Links: []api.Link{link(1, 48), link(65, 1)}}},
		"many":                many,
		"all with one other":  all,
		"all, each one twice": append(slices.Clone(all), all...),
	}
}

// anyLists: lists that are no GRAPH, or of things that aren't Right, or not SOUND.
func anyLists() map[string][]api.Thing {
	odd := oddThings()
	falling := tree()
	slices.Reverse(falling)
	flat := slices.Repeat([]api.Thing{dirOf(1, 48, 63, link(1, 1), link(1, 48))}, 5000)
	broad := dirOf(1, math.MaxInt, math.MaxInt, make([]api.Link, 1<<17)...)
	for i := range broad.Links {
		broad.Links[i] = link(uint64(1<<17-i), math.MaxInt-i)
	}
	lists := map[string][]api.Thing{
		"nil":                    nil,
		"empty":                  {},
		"zero things":            make([]api.Thing, 100),
		"falling":                falling,
		"without a first":        tree()[1:],
		"a first that is none":   {segOf(1, 4), deviceOf(2)},
		"odd things":             odd,
		"one many times":         flat,
		"many links":             {broad, deviceOf(5)},
		"many links in a middle": append(tree(), broad, broad),
	}
	for name, ring := range rings() {
		lists["a ring: "+name] = ring
	}
	r := rand.New(rand.NewSource(133))
	for i := range 200 {
		some := tree()
		for range 1 + r.Intn(30) {
			some = slices.Insert(some, r.Intn(1+len(some)), pick(r, odd...))
		}
		if r.Intn(2) > 0 {
			r.Shuffle(len(some), func(i, j int) { some[i], some[j] = some[j], some[i] })
		} else {
			slices.SortStableFunc(some, func(a, b api.Thing) int { return cmp.Compare(a.ID>>8, b.ID>>8) })
		}
		lists["drawn "+strconv.Itoa(i)] = some
	}
	return lists
}

// P1: of whatever list, all calls end, and none panics; and Sound says no.
func TestOfAnyList(t *testing.T) {
	lists := anyLists()
	ids := []uint64{0, 1, 2, 65, 66, 67, 4161, 5000, box, lastID, lastID + 1, math.MaxUint64}
	for name, g := range lists {
		before := plainCopies(g)
		if Sound(g) {
			t.Errorf("%s: it is SOUND", name)
		}
		Mend(g)
		for _, id := range ids {
			Find(g, id)
			Refs(g, id)
			for _, other := range ids {
				Unlink(g, id, other)
			}
		}
		for _, x := range []api.Thing{{}, deviceOf(67), dirOf(lastID, -1, 64, link(9, 9)), {ID: math.MaxUint64, Kind: -1}} {
			Put(g, x)
		}
		if !Same(g, before) || !alike(g, before) {
			t.Errorf("%s: what was handed in is changed", name)
		}
	}
	for _, name := range []string{"nil", "odd things", "falling", "many links", "a ring: many", "a ring: one"} {
		for _, other := range lists {
			Same(lists[name], other)
			Same(other, lists[name])
		}
	}
}
