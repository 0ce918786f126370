package dir

import (
	"testing"

	"bailey/api"
	"bailey/thing"
)

// spare: the list with room behind it, in which something stands: if it is another, somebody wrote there.
func spare[T any](l []T, mark T) []T {
	all := append(append([]T(nil), l...), mark, mark, mark)
	return all[:len(l)]
}

// roomy: the thing with spare room behind each list.
func roomy(d api.Thing) api.Thing {
	d.Label.Cats = spare(d.Label.Cats, api.Cat{ID: 4242, Level: -4242})
	d.Clear.Cats = spare(d.Clear.Cats, api.Cat{ID: 4243, Level: -4243})
	d.Links = spare(d.Links, link(4242, -4242))
	d.Data = spare(d.Data, 242)
	return d
}

// whole: the thing whose lists have their spare room, too. They are the same memory.
func whole(d api.Thing) api.Thing {
	d.Label.Cats = d.Label.Cats[:cap(d.Label.Cats)]
	d.Clear.Cats = d.Clear.Cats[:cap(d.Clear.Cats)]
	d.Links = d.Links[:cap(d.Links)]
	d.Data = d.Data[:cap(d.Data)]
	return d
}

func fill[T any](l []T, with T) {
	for i := range l {
		l[i] = with
	}
}

// scrawl writes over all of a thing's lists, spare room too.
func scrawl(d api.Thing) {
	d = whole(d)
	fill(d.Label.Cats, api.Cat{ID: 666, Level: 666})
	fill(d.Clear.Cats, api.Cat{ID: 667, Level: 667})
	fill(d.Links, link(666, 666))
	fill(d.Data, 66)
}

// deeds: each call that answers a directory, with each of its errors, where the directory is one of holders.
func deeds() map[string]func(d api.Thing) answer {
	return map[string]func(d api.Thing) answer{
		"Add ahead":         func(d api.Thing) answer { return asAdd(d, 1, 1) },
		"Add between":       func(d api.Thing) answer { return asAdd(d, 15, 1) },
		"Add behind":        func(d api.Thing) answer { return asAdd(d, lastID, 1) },
		"Add twice":         func(d api.Thing) answer { return asAdd(d, 10, 1) },
		"Add of 0":          func(d api.Thing) answer { return asAdd(d, 15, 0) },
		"Add of too much":   func(d api.Thing) answer { return asAdd(d, 15, 48) },
		"Born":              func(d api.Thing) answer { return asBorn(d, 1) },
		"Born of 0":         func(d api.Thing) answer { return asBorn(d, 0) },
		"Born of too much":  func(d api.Thing) answer { return asBorn(d, 48) },
		"Drop of the first": func(d api.Thing) answer { return asDrop(d, 10) },
		"Drop of the next":  func(d api.Thing) answer { return asDrop(d, 20) },
		"Drop of the last":  func(d api.Thing) answer { return asDrop(d, 160) },
		"Drop of none":      func(d api.Thing) answer { return asDrop(d, 11) },
	}
}

// holders: directories that are Right, of which each deed answers each of its errors, and none.
func holders() []api.Thing {
	plain := of(48)
	plain.Label.Cats = nil
	return []api.Thing{
		of(48), plain, of(1), of(48, link(10, 1)), of(2, link(160, 1)), of(48, ones(2)...), of(48, ones(16)...), of(17, ones(16)...),
		of(48, link(193, 1), link(lastID, 5)), named(of(48, ones(5)...), 3, 63), named(of(48, ones(5)...), lastID, 4),
	}
}

// P2, P12.3: no call changes or keeps what it was handed, spare room included; what it answers is new, and the same if it is asked again.
func TestMemory(t *testing.T) {
	for name, deed := range deeds() {
		for _, was := range holders() {
			d := roomy(was)
			before := thing.Copy(whole(d))
			first, second := deed(d), deed(d)
			told := thing.Copy(first.d)
			if !thing.Same(whole(d), before) {
				t.Errorf("%s: what was handed in is %+v, not %+v", name, whole(d), before)
			}
			scrawl(second.d)
			if !thing.Same(whole(d), before) {
				t.Errorf("%s: an answer is written over, and so is what was handed in: %+v", name, whole(d))
			}
			if !thing.Same(first.d, told) {
				t.Errorf("%s: an answer is written over, and so is another: %+v", name, first.d)
			}
			scrawl(d)
			if !thing.Same(first.d, told) {
				t.Errorf("%s: what was handed in is written over, and so is the answer: %+v", name, first.d)
			}
			if again := deed(was); !thing.Same(again.d, told) || again.name != first.name || again.err != first.err {
				t.Errorf("%s: asked again %+v, not %+v", name, again, first)
			}
		}
	}
}

// P2, P12.1, P12.2: nor do those that only tell.
func TestMemoryOfAsking(t *testing.T) {
	for _, was := range holders() {
		d := roomy(was)
		before := thing.Copy(whole(d))
		for range 2 {
			name, err := Fresh(d)
			wantName, wantErr := freshByWords(was)
			if Used(d) != usedByWords(was) || Has(d, 10) != hasByWords(was, 10) || Has(d, 11) || name != wantName || err != wantErr {
				t.Errorf("of %+v: %d, %v, %v, %d, %d", was, Used(d), Has(d, 10), Has(d, 11), name, err)
			}
		}
		if !thing.Same(whole(d), before) {
			t.Errorf("what was handed in is %+v, not %+v", whole(d), before)
		}
	}
}

// P12.3: what is handed in may have two lists in one piece of memory; what is answered hasn't.
func TestMemoryOfOneList(t *testing.T) {
	for name, deed := range deeds() {
		for _, was := range holders() {
			d := roomy(was)
			d.Clear.Cats = d.Label.Cats[:0]
			a := deed(d)
			told := thing.Copy(a.d)
			fill(whole(a.d).Clear.Cats, api.Cat{ID: 666, Level: 666})
			if !thing.Same(a.d, told) {
				t.Errorf("%s: Clear is written over, and the label is %v", name, a.d.Label)
			}
		}
	}
}
