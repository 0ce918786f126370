package nodes

import (
	"slices"
	"testing"

	"bailey/api"
	"bailey/disk"
)

// mark is what stands in spare room: if it is another, somebody wrote there.
const mark = -4242

// spare: the list with room behind it.
func spare(l []int) []int {
	all := append(slices.Clone(l), mark, mark, mark)
	return all[:len(l)]
}

// fill writes over all of a list, spare room too.
func fill(l []int, with int) {
	all := l[:cap(l)]
	for i := range all {
		all[i] = with
	}
}

// P14.1: Save changes neither the tree nor the places handed in, spare room included, and keeps none of it.
func TestMemoryOfSave(t *testing.T) {
	for name, x := range trees(t) {
		was := x.Nodes()
		d := disk.New(250)
		at := spare(upTo(7, 7+len(was)))
		for _, short := range []bool{false, true} {
			l := at
			if short {
				l = at[:len(at)-1]
			}
			all := slices.Clone(l[:cap(l)])
			Save(d, x, l)
			if !slices.Equal(l[:cap(l)], all) {
				t.Fatalf("%s: the places are %v, not %v", name, l[:cap(l)], all)
			}
			wantTree(t, name+", saved", x, was)
		}
		before := wholeOf(d)
		fill(at, 3)
		wantDisk(t, name+", behind the places written over", wholeOf(d), before)
		wantFound(t, name, d, x, upTo(7, 7+len(was)))
	}
}

// scrawl writes over all lists of nodes, spare room too.
func scrawl(l []api.Node) {
	for _, n := range l[:cap(l)] {
		fill(n.Kids, 666)
		keys, vals := n.Keys[:cap(n.Keys)], n.Vals[:cap(n.Vals)]
		for i := range keys {
			keys[i] = 666
		}
		for i := range vals {
			vals[i] = api.Extent{Start: 666, Len: 666}
		}
	}
	all := l[:cap(l)]
	for i := range all {
		all[i] = api.Node{Kids: []int{666}}
	}
}

// P14.2: Load's answers are new memory: what becomes of them is nothing to the disk, nor to other answers.
func TestMemoryOfLoad(t *testing.T) {
	for name, x := range trees(t) {
		l := x.Nodes()
		at := backwards(upTo(9, 9+len(l)))
		d := disk.New(250)
		Save(d, x, at)
		before := wholeOf(d)
		one, sectors, _ := Load(d, at[0])
		two, others, _ := Load(d, at[0])
		fill(sectors, 666)
		scrawl(one.Nodes())
		if !slices.Equal(others, at) {
			t.Fatalf("%s: the sectors of another Load are %v now", name, others)
		}
		wantTree(t, name+", the tree whose nodes were written over", one, l)
		wantTree(t, name+", the other tree", two, l)
		wantDisk(t, name, wholeOf(d), before)
		wantFound(t, name, d, x, at)
		for i := range d.Len() {
			d.Write(i, api.Sector{2, 1})
		}
		d.Flush()
		wantTree(t, name+", behind the disk written over", one, l)
		wantTree(t, name+", behind the disk written over, the other one", two, l)
		if word := wantLoad(t, name, d, at[0]); word == isSo {
			t.Fatalf("%s: it is found yet", name)
		}
	}
}

// P14.1: a tree that was loaded is one as any other: it is changed, and saved elsewhere, and both are found.
func TestLoadedAndSavedAgain(t *testing.T) {
	for name, x := range trees(t) {
		d := disk.New(250)
		at := upTo(0, len(x.Nodes()))
		Save(d, x, at)
		y, _, _ := Load(d, 0)
		z := y.Put(1, api.Extent{Start: 5, Len: 6}).Del(3)
		others := upTo(120, 120+len(z.Nodes()))
		if place, err := Save(d, z, others); place != 120 || err != api.OK {
			t.Fatal(name, place, err)
		}
		wantFound(t, name, d, x, at)
		wantFound(t, name+", changed", d, z, others)
	}
}

// P2: the same calls have the same answers, and a Save again writes the same.
func TestTheSameAgain(t *testing.T) {
	for name, x := range trees(t) {
		at := upTo(30, 30+len(x.Nodes()))
		d := disk.New(250)
		Save(d, x, at)
		d.Flush()
		before := wholeOf(d)
		if place, err := Save(d, x, at); place != 30 || err != api.OK {
			t.Fatal(name, place, err)
		}
		if !slices.Equal(d.Pending(), at) {
			t.Fatal(name, d.Pending())
		}
		d.Flush()
		wantDisk(t, name, wholeOf(d), before)
	}
}
