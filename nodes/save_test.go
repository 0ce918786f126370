package nodes

import (
	"math"
	"math/rand"
	"slices"
	"strconv"
	"testing"

	"bailey/api"
	"bailey/disk"
	"bailey/tree"
)

func wantSector(t *testing.T, what string, d *disk.Disk, i int, want api.Sector) {
	t.Helper()
	if got, err := d.Read(i); err != api.OK || got != want {
		t.Fatalf("%s: sector %d is %v, %d, not %v", what, i, got, err, want)
	}
}

// P14.1: the chapter's example.
func TestSaveOfNoKeys(t *testing.T) {
	d := disk.New(8)
	if place, err := Save(d, tree.New(), []int{5}); place != 5 || err != api.OK {
		t.Fatal(place, err)
	}
	wantSector(t, "no keys", d, 5, api.Sector{1, 0})
	if got := d.Pending(); !slices.Equal(got, []int{5}) {
		t.Error(got)
	}
}

// P14.1: a leaf's bytes.
func TestBytesOfLeaf(t *testing.T) {
	d := disk.New(8)
	x := tree.New().Put(0xF1F2F3F4F5F6F7F8, api.Extent{Start: most, Len: 0}).Put(0x0102030405060708, api.Extent{Start: 0x090A0B0C, Len: 0xFD0E0F10}).Put(0, api.Extent{})
	Save(d, x, []int{3})
	wantSector(t, "a leaf", d, 3, api.Sector{1, 3,
		0, 0, 0, 0, 0, 0, 0, 0, 0, 0, 0, 0, 0, 0, 0, 0,
		1, 2, 3, 4, 5, 6, 7, 8, 9, 10, 11, 12, 0xFD, 14, 15, 16,
		0xF1, 0xF2, 0xF3, 0xF4, 0xF5, 0xF6, 0xF7, 0xF8, 0xFF, 0xFF, 0xFF, 0xFF, 0, 0, 0, 0})
	full := tree.New()
	want := api.Sector{1, 7}
	for i := range 7 {
		full = full.Put(uint64(0xA1+i), api.Extent{Start: 0xB1 + i, Len: 0xC100 + i})
		copy(want[2+16*i:], []byte{0, 0, 0, 0, 0, 0, 0, byte(0xA1 + i), 0, 0, 0, byte(0xB1 + i), 0, 0, 0xC1, byte(i)})
	}
	if place, err := Save(d, full, []int{0}); place != 0 || err != api.OK {
		t.Fatal(place, err)
	}
	wantSector(t, "a full leaf", d, 0, want)
}

// P14.1: an inner node's bytes, and those of the leaves below it.
func TestBytesOfInnerNode(t *testing.T) {
	d := disk.New(1024)
	l := []api.Node{innerNode([]uint64{0x0102030405060708, 0xF1F2F3F4F5F6F7F8}, 1, 2, 3), leafNode(1, 2, 3), leafNode(0x0102030405060708, 0x0102030405060709, 0xF1F2F3F4F5F6F7F7), leafNode(greatest-2, greatest-1, greatest)}
	x := treeOf(t, l)
	if place, err := Save(d, x, []int{7, 0, 0x3FF, 0x102}); place != 7 || err != api.OK {
		t.Fatal(place, err)
	}
	wantSector(t, "an inner node", d, 7, api.Sector{2, 2,
		1, 2, 3, 4, 5, 6, 7, 8, 0xF1, 0xF2, 0xF3, 0xF4, 0xF5, 0xF6, 0xF7, 0xF8,
		0, 0, 0, 0, 0, 0, 3, 0xFF, 0, 0, 1, 2})
	for i, at := range []int{7, 0, 0x3FF, 0x102} {
		if i > 0 {
			wantSector(t, "a leaf below", d, at, plainSector(l[i]))
		}
	}
	full := treeOf(t, layers(1, 8))
	Save(d, full, upTo(0xF0, 0xF9))
	want := api.Sector{2, 7}
	for i := range 8 {
		if i < 7 {
			copy(want[2+8*i:], []byte{0, 0, 0, 0, 0, 0, 0, byte(35 + 30*i)})
		}
		copy(want[58+4*i:], []byte{0, 0, 0, byte(0xF1 + i)})
	}
	wantSector(t, "a full inner node", d, 0xF0, want)
}

// trees: of each height, and of few and many nodes.
func trees(t *testing.T) map[string]*tree.Tree {
	all := map[string]*tree.Tree{"no keys": tree.New()}
	grown := tree.New()
	for i := range 150 {
		k := uint64(i*77%150) * 3
		grown = grown.Put(k, extentOf(k))
		if i < 20 || i%40 == 0 {
			all[strconv.Itoa(i+1)+" keys"] = grown
		}
	}
	for _, counts := range [][]int{{1}, {1, 2}, {1, 8}, {1, 2, 8}, {1, 2, 16}, {1, 3, 15}, {1, 2, 8, 32}, {1, 3, 15, 70}} {
		l := layers(counts...)
		all[strconv.Itoa(len(counts))+" levels, "+strconv.Itoa(len(l))+" nodes"] = treeOf(t, l)
	}
	all["one greatest key"] = tree.New().Put(greatest, api.Extent{Start: most, Len: most})
	return all
}

// places: lists of places, as many as there are nodes, on a disk of so many sectors.
func places(r *rand.Rand, sectors, nodes int) map[string][]int {
	return map[string][]int{
		"from 0 on":      upTo(0, nodes),
		"the last ones":  upTo(sectors-nodes, sectors),
		"falling":        backwards(upTo(1, nodes+1)),
		"anywhere":       shuffled(r, sectors, nodes),
		"anywhere again": shuffled(r, sectors, nodes),
	}
}

// P14.1, P14.2: node by node in their order, each to its own place, and the place of the first; and it is found again.
func TestSaveAndLoad(t *testing.T) {
	r := rand.New(rand.NewSource(14))
	for name, x := range trees(t) {
		count := len(x.Nodes())
		for how, at := range places(r, 250, count) {
			what := name + ", " + how
			d, place, err := wantSave(t, what, disks(250), x, at)
			if err != api.OK || place != at[0] || !slices.Equal(d.Pending(), at) {
				t.Fatalf("%s: %d, %d, pending %v, not %v", what, place, err, d.Pending(), at)
			}
			wantFound(t, what, d, x, at)
			d.Flush()
			d.Break(0)
			d.Flush()
			wantFound(t, what+", flushed, and the power gone", d, x, at)
			d.Crash(nil, -1, 0)
			wantFound(t, what+", behind a crash", d, x, at)
		}
	}
}

// wantFound: is this tree found in these sectors?
func wantFound(t *testing.T, what string, d *disk.Disk, x *tree.Tree, at []int) {
	t.Helper()
	y, sectors, err := Load(d, at[0])
	if err != api.OK || !slices.Equal(sectors, at) {
		t.Fatalf("%s: Load = %v, %d, not %v", what, sectors, err, at)
	}
	wantTree(t, what, y, x.Nodes())
	if word := wantLoad(t, what, d, at[0]); word != isSo {
		t.Fatalf("%s: %s", what, word)
	}
}

// P14.1: places behind those of the Nodes don't matter.
func TestPlacesBehind(t *testing.T) {
	for name, x := range trees(t) {
		at := upTo(10, 10+len(x.Nodes()))
		for _, odd := range []int{-1, math.MinInt, 1 << 32, math.MaxInt, 10, 0, 300} {
			what := name + ", and behind " + strconv.Itoa(odd)
			d, place, err := wantSave(t, what, disks(250), x, append(slices.Clone(at), odd, 5, odd, odd))
			if place != 10 || err != api.OK || !slices.Equal(d.Pending(), at) {
				t.Fatalf("%s: %d, %d, pending %v", what, place, err, d.Pending())
			}
		}
	}
}

// P14.1: a place that stands there twice: the later node stands there, as it was written later.
func TestPlaceTwice(t *testing.T) {
	l := layers(1, 3)
	d, place, err := wantSave(t, "twice", disks(9), treeOf(t, l), []int{4, 6, 6, 4})
	if place != 4 || err != api.OK || !slices.Equal(d.Pending(), []int{4, 6, 6, 4}) {
		t.Fatal(place, err, d.Pending())
	}
	wantSector(t, "the last node", d, 4, plainSector(l[3]))
	wantSector(t, "the third", d, 6, plainSector(l[2]))
}

// wantNoSave: ErrNodes, with 0, and nothing is written, nor any power spent.
func wantNoSave(t *testing.T, what string, x *tree.Tree, at []int) {
	t.Helper()
	for _, power := range []int{-1, 0, 1} {
		broken := func() *disk.Disk {
			d := disk.New(250)
			d.Write(3, api.Sector{42})
			d.Break(power)
			return d
		}
		d, place, err := wantSave(t, what, broken, x, at)
		if place != 0 || err != api.ErrNodes || d.Dead() || len(d.Pending()) != 1 {
			t.Fatalf("%s: Save = %d, %d, dead %v, pending %v", what, place, err, d.Dead(), d.Pending())
		}
		if err := d.Write(0, api.Sector{}); (err == api.OK) != (power != 0) {
			t.Fatalf("%s: with power for %d behind it Write says %d", what, power, err)
		}
	}
}

// P14.1: ErrNodes of fewer places than Nodes.
func TestFewerPlaces(t *testing.T) {
	for name, x := range trees(t) {
		at := upTo(0, len(x.Nodes()))
		wantNoSave(t, name+", no places", x, nil)
		wantNoSave(t, name+", no places at all", x, []int{})
		wantNoSave(t, name+", one too few", x, at[:len(at)-1])
		wantNoSave(t, name+", half of them", x, at[:len(at)/2])
	}
}

// P14.1: ErrNodes of more than 600 Nodes, and of none of 600.
func TestNodesOfSave(t *testing.T) {
	for count, counts := range map[int][]int{599: {1, 3, 15, 90, 490}, 600: {1, 3, 15, 90, 491}, 601: {1, 3, 15, 90, 492}, 1000: {1, 4, 25, 150, 820}} {
		l := layers(counts...)
		if len(l) != count {
			t.Fatalf("there are %d nodes, not %d", len(l), count)
		}
		x := treeOf(t, l)
		for _, at := range [][]int{upTo(24, 1024), backwards(upTo(24, 1024)), upTo(0, 2000)} {
			if count > 600 {
				wantNoSave(t, "too many nodes", x, at)
				continue
			}
			d, place, err := wantSave(t, "many nodes", disks(1024), x, at)
			if place != at[0] || err != api.OK || len(d.Pending()) != count {
				t.Fatalf("%d nodes: Save = %d, %d, %d written", count, place, err, len(d.Pending()))
			}
			wantFound(t, "many nodes", d, x, at[:count])
		}
	}
}

// beyond: what four bytes can't tell.
func beyond() []int {
	return []int{-1, -2, -most, -most - 1, -most - 2, math.MinInt, math.MinInt + 5, 1 << 32, 1<<32 + 1, 1<<32 + 7, 1 << 33, 1 << 62, math.MaxInt - 2, math.MaxInt}
}

// P14.1: ErrNodes of a Start or a Len that is below 0 or above 2^32 - 1, each alone, in each leaf.
func TestExtentsOfSave(t *testing.T) {
	for _, counts := range [][]int{{1}, {1, 2}, {1, 2, 9}} {
		x := treeOf(t, layers(counts...))
		at := upTo(20, 20+len(x.Nodes()))
		for _, p := range x.Range(0, greatest) {
			key := "the key " + strconv.FormatUint(p.Key, 10)
			for _, n := range beyond() {
				wantNoSave(t, key+" with the Start "+strconv.Itoa(n), x.Put(p.Key, api.Extent{Start: n, Len: p.At.Len}), at)
				wantNoSave(t, key+" with the Len "+strconv.Itoa(n), x.Put(p.Key, api.Extent{Start: p.At.Start, Len: n}), at)
			}
			for _, e := range []api.Extent{{}, {Start: most}, {Len: most}, {Start: most, Len: most}, {Start: 1 << 31, Len: 1<<31 - 1}} {
				y := x.Put(p.Key, e)
				d, _, err := wantSave(t, key, disks(250), y, at)
				if err != api.OK {
					t.Fatalf("%s with %v: %d", key, e, err)
				}
				wantFound(t, key, d, y, at)
			}
		}
	}
}

// P14.1: ErrNodes of a place that is below 0 or above 2^32 - 1, each alone, ahead of the disk's errors; up to 2^32 - 1 it is the disk that says no.
func TestPlacesOfSave(t *testing.T) {
	for _, counts := range [][]int{{1}, {1, 2}, {1, 2, 9}} {
		x := treeOf(t, layers(counts...))
		at := upTo(20, 20+len(x.Nodes()))
		for i := range at {
			what := "the place " + strconv.Itoa(i)
			for _, n := range beyond() {
				wantNoSave(t, what+": "+strconv.Itoa(n), x, with(at, i, n))
				if i > 0 {
					wantNoSave(t, what+" behind one that isn't there: "+strconv.Itoa(n), x, with(with(at, 0, 250), i, n))
				}
			}
			for _, n := range []int{250, 251, 1024, 1 << 31, most - 1, most} {
				d, place, err := wantSave(t, what, disks(250), x, with(at, i, n))
				if place != 0 || err != api.ErrSector || !slices.Equal(d.Pending(), at[:i]) {
					t.Fatalf("%s: %d: Save = %d, %d, pending %v", what, n, place, err, d.Pending())
				}
			}
			for _, n := range []int{0, 249} {
				d, _, err := wantSave(t, what, disks(250), x, with(at, i, n))
				if err != api.OK {
					t.Fatalf("%s: %d: %d", what, n, err)
				}
				wantFound(t, what, d, x, with(at, i, n))
			}
		}
	}
}

// with: the list with another number at a place.
func with(l []int, i, n int) []int {
	l = slices.Clone(l)
	l[i] = n
	return l
}

// P14.1: the first error of the disk, with 0; what was written ahead of it is written.
func TestErrorsOfTheDisk(t *testing.T) {
	x := treeOf(t, layers(1, 2, 9))
	at := backwards(upTo(30, 42))
	for power := range len(at) + 2 {
		made := func() *disk.Disk {
			d := disk.New(50)
			d.Break(power)
			return d
		}
		d, place, err := wantSave(t, "the power goes", made, x, at)
		if power >= len(at) {
			if place != 41 || err != api.OK {
				t.Fatalf("power for %d: Save = %d, %d", power, place, err)
			}
			continue
		}
		if place != 0 || err != api.ErrPower || !d.Dead() || !slices.Equal(d.Pending(), at[:power]) {
			t.Fatalf("power for %d: Save = %d, %d, pending %v", power, place, err, d.Pending())
		}
		if place, err := Save(d, x, at); place != 0 || err != api.ErrPower {
			t.Fatalf("power for %d, and again: Save = %d, %d", power, place, err)
		}
		// A sector that isn't there is found ahead of the power that is gone, or the other way round.
		for i := range at {
			want := api.ErrPower
			if i <= power {
				want = api.ErrSector
			}
			if _, place, err := wantSave(t, "both", made, x, with(at, i, 50)); place != 0 || err != want {
				t.Fatalf("power for %d, no sector for node %d: Save = %d, %d", power, i, place, err)
			}
		}
	}
	if _, place, err := wantSave(t, "no sectors", disks(0), x, at); place != 0 || err != api.ErrSector {
		t.Fatal(place, err)
	}
}
