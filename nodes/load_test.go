package nodes

import (
	"math"
	"slices"
	"strconv"
	"testing"

	"bailey/api"
	"bailey/disk"
)

// first is where the first node of those that are laid stands, and size how many sectors their disk has.
const first, size = 20, 64

// placed: the nodes with sectors for Kids, each node standing as many sectors behind the first as its number is.
func placed(l []api.Node, from int) []api.Node {
	var all []api.Node
	for _, n := range l {
		n.Kids = slices.Clone(n.Kids)
		for i := range n.Kids {
			n.Kids[i] += from
		}
		all = append(all, n)
	}
	return all
}

// laidOn writes nodes whose Kids are sectors, one behind the other.
func laidOn(d *disk.Disk, l []api.Node, from int) *disk.Disk {
	for i, n := range l {
		d.Write(from+i, plainSector(n))
	}
	return d
}

// wantWord: is just this the word that is broken on a disk with these nodes, whose Kids are sectors?
func wantWord(t *testing.T, what, word string, l []api.Node) {
	t.Helper()
	wantWordOn(t, what, word, laidOn(disk.New(size), l, first), first)
}

func wantWordOn(t *testing.T, what, word string, d *disk.Disk, root int) {
	t.Helper()
	if got := wantLoad(t, what, d, root); got != word {
		t.Fatalf("%s: %q, not %q", what, got, word)
	}
}

// bush: a root over two inner nodes, which have four leaves and five.
func bush() []api.Node { return placed(layers(1, 2, 9), first) }

// P14.2: a leaf, an inner node with its leaves, and more, as they are told byte by byte.
func TestLoadOfBytes(t *testing.T) {
	d := disk.New(9)
	d.Write(5, api.Sector{1, 0})
	d.Write(6, api.Sector{1, 1, 1, 2, 3, 4, 5, 6, 7, 8, 9, 10, 11, 12, 13, 14, 15, 16})
	x, at, err := Load(d, 5)
	if err != api.OK || x.Len() != 0 || !slices.Equal(at, []int{5}) {
		t.Fatal(x, at, err)
	}
	x, at, err = Load(d, 6)
	if e, ok := x.Get(0x0102030405060708); err != api.OK || x.Len() != 1 || !ok || e != (api.Extent{Start: 0x090A0B0C, Len: 0x0D0E0F10}) || !slices.Equal(at, []int{6}) {
		t.Fatal(x, at, err)
	}
	d.Write(0, api.Sector{2, 1, 0, 0, 0, 0, 0, 0, 0, 9, 0, 0, 0, 8, 0, 0, 0, 3})
	d.Write(3, plainSector(leafNode(9, 10, 11)))
	d.Write(8, plainSector(leafNode(0, 7, 8)))
	x, at, err = Load(d, 0)
	if err != api.OK || x.Len() != 6 || !slices.Equal(at, []int{0, 8, 3}) {
		t.Fatal(x, at, err)
	}
	for _, k := range []uint64{0, 7, 8, 9, 10, 11} {
		if e, ok := x.Get(k); !ok || e != extentOf(k) {
			t.Error(k, e, ok)
		}
	}
	wantWordOn(t, "no keys", isSo, d, 5)
	wantWordOn(t, "one key", isSo, d, 6)
	wantWordOn(t, "six keys", isSo, d, 0)
	wantWordOn(t, "zeros", notSo, d, 1)
}

// P14.2: the sectors stand as their nodes do: each with all below it, and its Kids in their order.
func TestOrderOfSectors(t *testing.T) {
	d := disk.New(12)
	l := layers(1, 2, 9)
	at := []int{7, 2, 11, 0, 4, 9, 10, 1, 3, 8, 6, 5}
	for i, n := range l {
		n.Kids = slices.Clone(n.Kids)
		for j, kid := range n.Kids {
			n.Kids[j] = at[kid]
		}
		d.Write(at[i], plainSector(n))
	}
	x, sectors, err := Load(d, 7)
	if err != api.OK || !slices.Equal(sectors, at) {
		t.Fatal(sectors, err)
	}
	wantTree(t, "anywhere", x, l)
	// What stands below a node is a tree, too.
	x, sectors, err = Load(d, 2)
	if err != api.OK || x.Len() != 12 || !slices.Equal(sectors, at[1:6]) {
		t.Fatal(sectors, err)
	}
	x, sectors, err = Load(d, 5)
	if err != api.OK || x.Len() != 3 || !slices.Equal(sectors, []int{5}) {
		t.Fatal(sectors, err)
	}
}

// P14.2: what was written last is read, stable or not.
func TestLoadOfPending(t *testing.T) {
	d := disk.New(size)
	old, young := layers(1, 3), layers(1, 4)
	laidOn(d, placed(old, first), first)
	d.Flush()
	laidOn(d, placed(young, first), first)
	x, _, err := Load(d, first)
	if err != api.OK {
		t.Fatal(err)
	}
	wantTree(t, "pending", x, young)
	d.Crash(nil, -1, 0)
	x, _, err = Load(d, first)
	if err != api.OK {
		t.Fatal(err)
	}
	wantTree(t, "stable", x, old)
}

// P14.2: ErrNodes of a root that isn't there, though all that are there are right.
func TestRootThatIsNotThere(t *testing.T) {
	for _, count := range []int{0, 1, 2, 64, 1024} {
		d := disk.New(count)
		for i := range count {
			d.Write(i, plainSector(leafNode(uint64(i))))
		}
		for _, root := range append(beyond(), count, count+1, 1024, 1025, most, most-1, 1<<31) {
			wantWordOn(t, "root "+strconv.Itoa(root), notThere, d, root)
		}
		for _, root := range []int{0, count / 2, count - 1} {
			if count > 0 {
				wantWordOn(t, "root "+strconv.Itoa(root), isSo, d, root)
			}
		}
	}
}

// P14.2: ErrNodes of a Kid that isn't there, each alone.
func TestKidThatIsNotThere(t *testing.T) {
	wantWord(t, "the bush", isSo, bush())
	for i, n := range bush() {
		for j := range n.Kids {
			for _, kid := range []int{size, size + 1, 1024, 1 << 16, 1 << 31, most - 1, most} {
				l := bush()
				l[i].Kids[j] = kid
				wantWord(t, "Kid "+strconv.Itoa(kid), notThere, l)
			}
		}
	}
}

// P14.2: ErrNodes of a first byte other than 1 and 2, and of 1 and 2 where what is behind it isn't so.
func TestFirstByte(t *testing.T) {
	for i, n := range bush() {
		for kind := range 256 {
			d := laidOn(disk.New(size), bush(), first)
			s, _ := d.Read(first + i)
			was := s[0]
			s[0] = byte(kind)
			d.Write(first+i, s)
			what := "node " + strconv.Itoa(i) + " with the first byte " + strconv.Itoa(kind)
			word := wantLoad(t, what, d, first)
			// A Key and two Kids are as many bytes as a Key and its extent: the root is a leaf then, too.
			right := kind == int(was) || i == 0 && kind == 1
			if (word == isSo) != right || kind != 1 && kind != 2 && word != notSo {
				t.Fatalf("%s (of %v): %q", what, n, word)
			}
		}
	}
}

// P14.2: ErrNodes of more Keys than 7.
func TestMoreKeys(t *testing.T) {
	many := layers(1, 9)
	if len(many[0].Keys) != 8 {
		t.Fatal("the root hasn't 8 Keys")
	}
	wantWord(t, "8 Keys and 9 Kids", notSo, placed(many, first))
	wantWord(t, "7 Keys and 8 Kids", isSo, placed(layers(1, 8), first))
	for _, l := range [][]api.Node{{leafNode(1, 2, 3, 4, 5, 6, 7)}, placed(layers(1, 8), first), {leafNode()}, {innerNode(nil, first+1), leafNode(1, 2, 3)}} {
		for keys := 8; keys < 256; keys++ {
			d := laidOn(disk.New(size), l, first)
			s, _ := d.Read(first)
			s[1] = byte(keys)
			d.Write(first, s)
			wantWordOn(t, strconv.Itoa(keys)+" Keys", notSo, d, first)
		}
	}
	for i := range bush() {
		d := laidOn(disk.New(size), bush(), first)
		s, _ := d.Read(first + i)
		s[1] = 8
		d.Write(first+i, s)
		wantWordOn(t, "8 Keys of the node "+strconv.Itoa(i), notSo, d, first)
	}
}

// P14.2: ErrNodes of a byte behind that is no zero: each of them, of nodes of as many Keys as can be.
func TestBytesBehind(t *testing.T) {
	var all [][]api.Node
	for keys := range 8 {
		var leaf []uint64
		for i := range keys {
			leaf = append(leaf, uint64(i))
		}
		all = append(all, []api.Node{leafNode(leaf...)})
		if keys > 0 {
			all = append(all, placed(layers(1, keys+1), first))
		}
	}
	for _, l := range all {
		d := laidOn(disk.New(size), l, first)
		wantWordOn(t, "zeros behind", isSo, d, first)
		used := 2 + 16*len(l[0].Keys)
		if len(l) > 1 {
			used = 2 + 8*len(l[0].Keys) + 4*len(l[0].Kids)
		}
		s, _ := d.Read(first)
		for i := used; i < api.Size; i++ {
			for _, b := range []byte{1, 0x80, 0xFF} {
				other := s
				other[i] = b
				d.Write(first, other)
				if x, at, err := Load(d, first); x != nil || len(at) > 0 || err != api.ErrNodes {
					t.Fatalf("%v with %d at %d: %v, %v, %d", l[0], b, i, x, at, err)
				}
			}
		}
		d.Write(first, s)
		wantWordOn(t, "zeros behind again", isSo, d, first)
	}
	for i := range bush() {
		d := laidOn(disk.New(size), bush(), first)
		s, _ := d.Read(first + i)
		s[127] = 1
		d.Write(first+i, s)
		wantWordOn(t, "the last byte of the node "+strconv.Itoa(i), notSo, d, first)
	}
}

// P14.2: ErrNodes of a sector that comes twice.
func TestSectorTwice(t *testing.T) {
	kid := func(i, j, sector int) func(l []api.Node) {
		return func(l []api.Node) { l[i].Kids[j] = first + sector }
	}
	for what, change := range map[string]func(l []api.Node){
		"the root its own Kid":               kid(0, 0, 0),
		"the root its own last Kid":          kid(0, 1, 0),
		"an inner node its own Kid":          kid(1, 0, 1),
		"the last inner node its own Kid":    kid(6, 4, 6),
		"an inner node's Kid the root":       kid(1, 3, 0),
		"the last Kid the root":              kid(6, 4, 0),
		"one twice in a node, the first":     kid(1, 1, 2),
		"one twice in a node, the last":      kid(6, 4, 10),
		"one twice in a node, not neighbors": kid(6, 4, 7),
		"one twice in the root":              kid(0, 1, 1),
		"one in two nodes":                   kid(6, 0, 5),
		"an inner node below another":        kid(6, 2, 1),
		"each of a node's Kids the first": func(l []api.Node) {
			for j := range l[1].Kids {
				l[1].Kids[j] = first + 2
			}
		},
		"all Kids the root": func(l []api.Node) {
			for i := range l {
				for j := range l[i].Kids {
					l[i].Kids[j] = first
				}
			}
		},
		"a Key and a Kid more, the last twice": func(l []api.Node) {
			l[1].Keys, l[1].Kids = append(l[1].Keys, 126), append(l[1].Kids, first+5)
		},
		"a Key and a Kid more, the first one's of the other": func(l []api.Node) {
			l[6].Keys, l[6].Kids = slices.Insert(l[6].Keys, 0, 126), slices.Insert(l[6].Kids, 0, first+5)
		},
	} {
		l := bush()
		change(l)
		wantWord(t, what, twice, l)
	}
}

// P14.2, P1: a node above itself at several steps.
func TestAboveItself(t *testing.T) {
	for steps := 1; steps <= 40; steps++ {
		for _, back := range []int{0, steps / 2, steps - 1} {
			// Each node's last Kid is the next one, its others are leaves; the last one's is one that stands above.
			var l []api.Node
			for i := range steps {
				next := first + i + 1
				if i == steps-1 {
					next = first + back
				}
				l = append(l, innerNode([]uint64{uint64(100 * (i + 1))}, 0, next))
			}
			d := laidOn(disk.New(size*2), l, first)
			for i := range steps {
				leaf := first + steps + i
				d.Write(leaf, plainSector(leafNode(uint64(100*i+1), uint64(100*i+2), uint64(100*i+3))))
				l[i].Kids[0] = leaf
			}
			laidOn(d, l, first)
			wantWordOn(t, strconv.Itoa(steps)+" steps, back to "+strconv.Itoa(back), twice, d, first)
		}
	}
}

// P14.2: ErrNodes of 601 nodes, and none of 600.
func TestNodesOfLoad(t *testing.T) {
	for _, c := range []struct {
		word   string
		counts []int
	}{
		{isSo, []int{1, 3, 15, 90, 490}}, {isSo, []int{1, 3, 15, 90, 491}}, {isSo, []int{1, 8, 64, 512}}, {isSo, []int{1, 2, 8, 50, 300}},
		{moreNodes, []int{1, 3, 15, 90, 492}}, {moreNodes, []int{1, 2, 14, 92, 492}}, {moreNodes, []int{1, 3, 15, 90, 493}}, {moreNodes, []int{1, 4, 25, 150, 820}},
	} {
		l := layers(c.counts...)
		treeOf(t, l)
		d := laidOn(disk.New(1024), placed(l, 3), 3)
		wantWordOn(t, strconv.Itoa(len(l))+" nodes", c.word, d, 3)
		if x, at, err := Load(d, 3); c.word == isSo && (err != api.OK || len(at) != len(l) || len(x.Nodes()) != len(l)) {
			t.Fatal(len(l), len(at), err)
		}
	}
}

// P14.2: ErrNodes of nodes that aren't RIGHT.
func TestNodesThatAreNotRight(t *testing.T) {
	low := func() []api.Node {
		return []api.Node{innerNode([]uint64{50, 80}, 1, 2, 3), leafNode(10, 20, 30), leafNode(50, 60, 70), leafNode(80, 90, 95)}
	}
	deep := func() []api.Node { return layers(1, 2, 9) }
	for what, l := range map[string][]api.Node{
		"Keys that fall in a root":              {leafNode(2, 1)},
		"equal Keys in a root":                  {leafNode(1, 2, 2)},
		"equal Keys, the greatest":              {leafNode(greatest, greatest)},
		"Keys that fall in a leaf":              changed(low(), 2, leafNode(50, 70, 60)),
		"equal Keys in a leaf":                  changed(low(), 1, leafNode(10, 10, 30)),
		"equal Keys in an inner node":           changed(low(), 0, innerNode([]uint64{50, 50}, 1, 2, 3)),
		"Keys that fall in an inner node":       changed(low(), 0, innerNode([]uint64{80, 50}, 1, 2, 3)),
		"two Keys in a leaf":                    changed(low(), 3, leafNode(80, 90)),
		"no Keys in a leaf":                     changed(low(), 1, leafNode()),
		"two Keys in an inner node":             layers(1, 2, 7),
		"three Kids of an inner node, the last": changed(deep(), 6, innerNode(deep()[6].Keys[:2], 7, 8, 9)),
		"below the Key ahead":                   changed(low(), 2, leafNode(49, 60, 70)),
		"at the Key behind":                     changed(low(), 1, leafNode(10, 20, 50)),
		"above the Key behind":                  changed(low(), 2, leafNode(50, 60, 81)),
		"below all":                             changed(low(), 3, leafNode(1, 2, 3)),
		"a Key far below out of bounds":         changed(deep(), 7, leafNode(124, 140, 150)),
		"an inner node's Key out of bounds":     changed(deep(), 1, innerNode([]uint64{35, 65, 125}, 2, 3, 4, 5)),
		"one Kid of the root":                   {innerNode(nil, 1), leafNode(1, 2, 3)},
		"one Kid of the root, of no keys":       {innerNode(nil, 1), leafNode()},
		"one Kid of an inner node":              {innerNode([]uint64{50}, 1, 3), innerNode(nil, 2), leafNode(1, 2, 3), innerNode(nil, 4), leafNode(51, 52, 53)},
		"the first leaf less deep":              append([]api.Node{innerNode([]uint64{125}, 1, 2), leafNode(1, 2, 3), innerNode(deep()[6].Keys, 3, 4, 5, 6, 7)}, deep()[7:]...),
		"the last leaf less deep":               append(changed(deep()[:6], 0, innerNode([]uint64{125}, 1, 6)), leafNode(130, 140, 150)),
	} {
		wantWord(t, what, noTree, placed(l, first))
	}
	wantWord(t, "the low ones", isSo, placed(low(), first))
	wantWord(t, "the deep ones", isSo, placed(deep(), first))
}

// changed: the nodes with another one at a place.
func changed(l []api.Node, i int, n api.Node) []api.Node {
	l = slices.Clone(l)
	l[i] = n
	return l
}

// P1: a chain of nodes as long as a disk, and sectors that all name one another.
func TestLoadOfTangles(t *testing.T) {
	chain, ring, web, leaves := disk.New(1024), disk.New(1024), disk.New(1024), disk.New(1024)
	for i := range 1024 {
		chain.Write(i, plainSector(innerNode(nil, i+1)))
		ring.Write(i, plainSector(innerNode([]uint64{math.MaxUint64}, (i+1)%1024, (i+2)%1024)))
		var kids []int
		for j := range 8 {
			kids = append(kids, (i*8+j+1)%1024)
		}
		web.Write(i, plainSector(innerNode(make([]uint64, 7), kids...)))
		leaves.Write(i, plainSector(innerNode(make([]uint64, 7), 1, 2, 3, 4, 5, 6, 7, 8)))
	}
	for _, d := range []*disk.Disk{chain, ring, web, leaves} {
		d.Flush()
		for root := range 1024 {
			if x, at, err := Load(d, root); x != nil || len(at) > 0 || err != api.ErrNodes {
				t.Fatal(root, x, at, err)
			}
		}
	}
	wantWordOn(t, "the chain", moreNodes, chain, 0)
	wantWordOn(t, "the chain's last 600", notThere, chain, 424)
	wantWordOn(t, "the chain's last 601", moreNodes, chain, 423)
}
