package dir

import (
	"maps"
	"math/big"
	"slices"
	"testing"

	"bailey/api"
	"bailey/thing"
)

// lastID is the greatest name that a thing may have: 2^48 - 1.
const lastID = uint64(281474976710655)

func link(id uint64, quota int) api.Link { return api.Link{ID: id, Quota: quota} }

// of: the directory 3, of a quota, with these links.
func of(quota int, links ...api.Link) api.Thing {
	return api.Thing{
		ID: 3, Kind: api.Dir, Quota: quota, Links: links,
		Label: api.Label{Def: api.Plain, Cats: []api.Cat{{ID: 7, Level: api.Taint}, {ID: 9, Level: api.Mild}}},
	}
}

// ones: so many links, of the quota 1 each, with the IDs 10, 20, and so on.
func ones(count int) []api.Link {
	var links []api.Link
	for i := range count {
		links = append(links, link(uint64(10*i+10), 1))
	}
	return links
}

// named: the directory with another ID, which gave so many names.
func named(d api.Thing, id uint64, next int) api.Thing {
	d.ID, d.Next = id, next
	return d
}

// answer is what Add, Born or Drop answers.
type answer struct {
	d    api.Thing
	name uint64
	err  api.Errno
}

func asAdd(d api.Thing, id uint64, quota int) answer {
	after, err := Add(d, id, quota)
	return answer{after, 0, err}
}

func asBorn(d api.Thing, quota int) answer {
	after, name, err := Born(d, quota)
	return answer{after, name, err}
}

func asDrop(d api.Thing, id uint64) answer {
	after, err := Drop(d, id)
	return answer{after, 0, err}
}

// wantAnswer holds an answer against the one that is wanted. Both are of a directory that is Right, so that is, too.
func wantAnswer(t *testing.T, what string, got, want answer) {
	t.Helper()
	if !thing.Same(got.d, want.d) || got.name != want.name || got.err != want.err {
		t.Errorf("%s tells %+v, not %+v", what, got, want)
	}
	if !thing.Right(got.d) {
		t.Errorf("%s tells what isn't Right: %+v", what, got.d)
	}
}

// The chapter's words, told on the links by their IDs.

func quotas(d api.Thing) map[uint64]int {
	by := map[uint64]int{}
	for _, l := range d.Links {
		by[l.ID] = l.Quota
	}
	return by
}

// linked: the directory with just these links.
func linked(d api.Thing, by map[uint64]int) api.Thing {
	d.Links = nil
	for _, id := range slices.Sorted(maps.Keys(by)) {
		d.Links = append(d.Links, link(id, by[id]))
	}
	return d
}

func usedByWords(d api.Thing) int {
	used := 1
	for _, quota := range quotas(d) {
		used += quota
	}
	return used
}

func hasByWords(d api.Thing, id uint64) bool { return quotas(d)[id] > 0 }

// fits: is a quota at most what is left? Told without an end to numbers.
func fits(d api.Thing, quota int) bool {
	together := new(big.Int).Add(big.NewInt(int64(usedByWords(d))), big.NewInt(int64(quota)))
	return together.Cmp(big.NewInt(int64(d.Quota))) <= 0
}

func freshByWords(d api.Thing) (uint64, api.Errno) {
	if d.Next == 63 || d.ID > 4398046511104-1 {
		return 0, 125
	}
	return d.ID<<6 | uint64(d.Next+1), 0
}

func addByWords(d api.Thing, id uint64, quota int) answer {
	by := quotas(d)
	switch {
	case hasByWords(d, id):
		return answer{d, 0, 123}
	case len(by) == 16:
		return answer{d, 0, 122}
	case quota < 1 || !fits(d, quota):
		return answer{d, 0, 121}
	}
	by[id] = quota
	return answer{linked(d, by), 0, 0}
}

func bornByWords(d api.Thing, quota int) answer {
	name, err := freshByWords(d)
	if err != 0 {
		return answer{d, 0, err}
	}
	a := addByWords(d, name, quota)
	if a.err == 0 {
		a.name = name
		a.d.Next++
	}
	return a
}

func dropByWords(d api.Thing, id uint64) answer {
	by := quotas(d)
	if !hasByWords(d, id) {
		return answer{d, 0, 124}
	}
	delete(by, id)
	return answer{linked(d, by), 0, 0}
}

// wantWords holds all calls of a directory that is Right against the words, with each of these IDs and quotas.
func wantWords(t *testing.T, d api.Thing, ids []uint64, sizes []int) {
	t.Helper()
	if !thing.Right(d) {
		t.Fatalf("it isn't Right: %+v", d)
	}
	if used := Used(d); used != usedByWords(d) {
		t.Errorf("Used of %+v tells %d", d, used)
	}
	name, err := Fresh(d)
	if wantName, wantErr := freshByWords(d); name != wantName || err != wantErr {
		t.Errorf("Fresh of %+v tells %d, %d, not %d, %d", d, name, err, wantName, wantErr)
	}
	for _, id := range ids {
		if has := Has(d, id); has != hasByWords(d, id) {
			t.Errorf("Has of %+v and %d tells %v", d, id, has)
		}
		wantAnswer(t, "Drop", asDrop(d, id), dropByWords(d, id))
		for _, size := range sizes {
			wantAnswer(t, "Add", asAdd(d, id, size), addByWords(d, id, size))
		}
	}
	for _, size := range sizes {
		wantAnswer(t, "Born", asBorn(d, size), bornByWords(d, size))
	}
}
