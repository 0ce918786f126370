package nodes

import (
	"math"
	"math/rand"
	"slices"
	"testing"

	"bailey/api"
	"bailey/disk"
	"bailey/tree"
)

const (
	greatest = math.MaxUint64 // of all keys
	most     = 1<<32 - 1      // of all Starts, Lens and places
)

// number: n as so many bytes, the highest first.
func number(width int, n uint64) []byte {
	b := make([]byte, width)
	for i := range b {
		b[width-1-i] = byte(n)
		n /= 256
	}
	return b
}

// sectorOf: a sector that begins with these bytes, one part behind the other, and zeros behind.
func sectorOf(parts ...[]byte) api.Sector {
	var s api.Sector
	copy(s[:], slices.Concat(parts...))
	return s
}

// plainSector: the bytes of a node whose Kids are sectors, as P14.1 tells them.
func plainSector(n api.Node) api.Sector {
	parts := [][]byte{{1, byte(len(n.Keys))}}
	if len(n.Kids) > 0 {
		parts[0][0] = 2
	}
	for i, k := range n.Keys {
		parts = append(parts, number(8, k))
		if len(n.Vals) > 0 {
			parts = append(parts, number(4, uint64(n.Vals[i].Start)), number(4, uint64(n.Vals[i].Len)))
		}
	}
	for _, kid := range n.Kids {
		parts = append(parts, number(4, uint64(kid)))
	}
	return sectorOf(parts...)
}

// plainSave: P14.1 told plainly.
func plainSave(d *disk.Disk, x *tree.Tree, at []int) (int, api.Errno) {
	l := x.Nodes()
	wrong := len(at) < len(l) || len(l) > 600
	for i, n := range l {
		wrong = wrong || at[i] < 0 || at[i] > most
		for _, e := range n.Vals {
			wrong = wrong || e.Start < 0 || e.Start > most || e.Len < 0 || e.Len > most
		}
	}
	if wrong {
		return 0, api.ErrNodes
	}
	for i, n := range l {
		var kids []int
		for _, kid := range n.Kids {
			kids = append(kids, at[kid])
		}
		if err := d.Write(at[i], plainSector(api.Node{Keys: n.Keys, Vals: n.Vals, Kids: kids})); err != api.OK {
			return 0, err
		}
	}
	return at[0], api.OK
}

// told reads numbers from a sector's bytes, one behind the other.
type told struct {
	bytes []byte
}

func (b *told) number(width int) uint64 {
	n := uint64(0)
	for _, one := range b.bytes[:width] {
		n = n*256 + uint64(one)
	}
	b.bytes = b.bytes[width:]
	return n
}

// plainNode: the node whose Kids are sectors, and whether the sector is so.
func plainNode(s api.Sector) (api.Node, bool) {
	var n api.Node
	b := told{bytes: s[:]}
	kind, keys := b.number(1), b.number(1)
	if kind < 1 || kind > 2 || keys > 7 {
		return n, false
	}
	for range keys {
		n.Keys = append(n.Keys, b.number(8))
		if kind == 1 {
			n.Vals = append(n.Vals, api.Extent{Start: int(b.number(4)), Len: int(b.number(4))})
		}
	}
	if kind == 2 {
		for range keys + 1 {
			n.Kids = append(n.Kids, int(b.number(4)))
		}
	}
	return n, !slices.ContainsFunc(b.bytes, func(x byte) bool { return x != 0 })
}

// The words of P14.2 that a load can break.
const (
	isSo      = ""
	notThere  = "a sector isn't there"
	notSo     = "a sector isn't so"
	twice     = "a sector comes twice"
	moreNodes = "more than 600 nodes"
	noTree    = "Of has an error"
)

// plainLoad: P14.2 told plainly: the nodes, their sectors, and the word that is broken first.
func plainLoad(d *disk.Disk, root int) ([]api.Node, []int, string) {
	type step struct{ sector, above, kid int }
	var l []api.Node
	var sectors []int
	for todo := []step{{root, -1, 0}}; len(todo) > 0; {
		next := todo[0]
		todo = todo[1:]
		if next.sector < 0 || next.sector >= d.Len() {
			return nil, nil, notThere
		}
		if slices.Contains(sectors, next.sector) {
			return nil, nil, twice
		}
		s, _ := d.Read(next.sector)
		n, ok := plainNode(s)
		if !ok {
			return nil, nil, notSo
		}
		var steps []step
		for i, kid := range n.Kids {
			steps = append(steps, step{kid, len(l), i})
		}
		todo = append(steps, todo...)
		if next.above >= 0 {
			l[next.above].Kids[next.kid] = len(l)
		}
		l, sectors = append(l, n), append(sectors, next.sector)
		if len(l) > 600 {
			return nil, nil, moreNodes
		}
	}
	if _, err := tree.Of(l); err != api.OK {
		return nil, nil, noTree
	}
	return l, sectors, isSo
}

// whole is all that can be told of a disk.
type whole struct {
	now, stable []api.Sector
	pending     []int
	dead        bool
}

func wholeOf(d *disk.Disk) whole {
	w := whole{pending: d.Pending(), dead: d.Dead()}
	for i := range d.Len() {
		s, _ := d.Read(i)
		w.now, w.stable = append(w.now, s), append(w.stable, d.Stable(i))
	}
	return w
}

func wantDisk(t *testing.T, what string, got, want whole) {
	t.Helper()
	if !slices.Equal(got.pending, want.pending) || got.dead != want.dead || len(got.now) != len(want.now) {
		t.Fatalf("%s: pending are %v of %d, dead %v, not %v of %d, %v", what, got.pending, len(got.now), got.dead, want.pending, len(want.now), want.dead)
	}
	for i := range want.now {
		if got.now[i] != want.now[i] || got.stable[i] != want.stable[i] {
			t.Fatalf("%s: sector %d is %v, stable %v, not %v, %v", what, i, got.now[i], got.stable[i], want.now[i], want.stable[i])
		}
	}
}

func sameNodes(a, b []api.Node) bool {
	return slices.EqualFunc(a, b, func(a, b api.Node) bool {
		return slices.Equal(a.Keys, b.Keys) && slices.Equal(a.Vals, b.Vals) && slices.Equal(a.Kids, b.Kids)
	})
}

// wantSave: does Save just what its words say, on a disk that is made twice? The answer is the disk, and what Save said.
func wantSave(t *testing.T, what string, made func() *disk.Disk, x *tree.Tree, at []int) (*disk.Disk, int, api.Errno) {
	t.Helper()
	d, other := made(), made()
	nodesWere, atWas := x.Nodes(), slices.Clone(at)
	place, err := Save(d, x, at)
	wantPlace, wantErr := plainSave(other, x, at)
	if place != wantPlace || err != wantErr {
		t.Fatalf("%s: Save = %d, %d, not %d, %d", what, place, err, wantPlace, wantErr)
	}
	wantDisk(t, what, wholeOf(d), wholeOf(other))
	if !sameNodes(x.Nodes(), nodesWere) || !slices.Equal(at, atWas) {
		t.Fatalf("%s: Save changed what it was given", what)
	}
	return d, place, err
}

// wantTree: is it the tree of these nodes?
func wantTree(t *testing.T, what string, x *tree.Tree, l []api.Node) {
	t.Helper()
	if !sameNodes(x.Nodes(), l) {
		t.Fatalf("%s: the nodes are %v, not %v", what, x.Nodes(), l)
	}
	var pairs []api.Pair
	for _, n := range l {
		for i, e := range n.Vals {
			pairs = append(pairs, api.Pair{Key: n.Keys[i], At: e})
		}
	}
	if got := x.Range(0, greatest); !slices.Equal(got, pairs) || x.Len() != len(pairs) {
		t.Fatalf("%s: the pairs are %v, %d of them, not %v", what, got, x.Len(), pairs)
	}
}

// wantLoad: does Load say just what its words say, twice, and leave the disk? The answer is the word that was broken.
func wantLoad(t *testing.T, what string, d *disk.Disk, root int) string {
	t.Helper()
	was := wholeOf(d)
	l, sectors, word := plainLoad(d, root)
	for range 2 {
		x, at, err := Load(d, root)
		if word != isSo && (err != api.ErrNodes || x != nil || len(at) > 0) {
			t.Fatalf("%s: %s, but Load = %v, %v, %d", what, word, x, at, err)
		}
		if word == isSo && (err != api.OK || x == nil || !slices.Equal(at, sectors)) {
			t.Fatalf("%s: Load = %v, %v, %d, not sectors %v", what, x, at, err, sectors)
		}
		if word == isSo {
			wantTree(t, what, x, l)
		}
		wantDisk(t, what, wholeOf(d), was)
	}
	return word
}

// treeOf: the tree of nodes.
func treeOf(t *testing.T, l []api.Node) *tree.Tree {
	t.Helper()
	x, err := tree.Of(l)
	if err != api.OK {
		t.Fatalf("Of(%v): %d", l, err)
	}
	return x
}

// extentOf: an extent for a key, unlike those of the keys near to it.
func extentOf(key uint64) api.Extent {
	return api.Extent{Start: int(key*7919) & most, Len: int(key*31+1) & most}
}

// leafNode: a leaf with these keys.
func leafNode(keys ...uint64) api.Node {
	n := api.Node{Keys: keys}
	for _, k := range keys {
		n.Vals = append(n.Vals, extentOf(k))
	}
	return n
}

func innerNode(keys []uint64, kids ...int) api.Node { return api.Node{Keys: keys, Kids: kids} }

// layers: right nodes, so many on each level, from the root on, each with as many Kids as its neighbours or one more. The keys begin with 10, and rise by 10.
func layers(counts ...int) []api.Node {
	var l []api.Node
	key := uint64(0)
	var grow func(level, i int)
	grow = func(level, i int) {
		at := len(l)
		l = append(l, api.Node{})
		if level == len(counts)-1 {
			l[at] = leafNode(key+10, key+20, key+30)
			key += 30
			return
		}
		var n api.Node
		from, to := counts[level+1]*i/counts[level], counts[level+1]*(i+1)/counts[level]
		for kid := from; kid < to; kid++ {
			if kid > from {
				n.Keys = append(n.Keys, key+5)
			}
			n.Kids = append(n.Kids, len(l))
			grow(level+1, kid)
		}
		l[at] = n
	}
	grow(0, 0)
	return l
}

// upTo: the numbers from one on, up to another, ahead of it.
func upTo(from, to int) []int {
	var l []int
	for i := from; i < to; i++ {
		l = append(l, i)
	}
	return l
}

// backwards: the list, from its end on.
func backwards(l []int) []int {
	l = slices.Clone(l)
	slices.Reverse(l)
	return l
}

// shuffled: some numbers below n, in any order.
func shuffled(r *rand.Rand, n, count int) []int { return r.Perm(n)[:count] }

// disks: makes disks of so many sectors.
func disks(sectors int) func() *disk.Disk {
	return func() *disk.Disk { return disk.New(sectors) }
}
