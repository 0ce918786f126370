package nodes

import (
	"math"
	"math/rand"
	"slices"
	"strconv"
	"testing"

	"bailey/api"
	"bailey/disk"
	"bailey/tree"
)

// someTree: a tree of up to so many keys, with some of them deleted again.
func someTree(r *rand.Rand, keys int) *tree.Tree {
	x, span := tree.New(), uint64(1+r.Intn(3*keys+1))
	for range r.Intn(keys + 1) {
		k := r.Uint64() % span
		if r.Intn(9) == 0 {
			k = r.Uint64()
		}
		x = x.Put(k, api.Extent{Start: int(r.Uint32()), Len: int(r.Uint32() >> r.Intn(32))})
	}
	for range r.Intn(keys + 1) {
		x = x.Del(r.Uint64() % span)
	}
	return x
}

// P14.1, P14.2: trees drawn at random, there and back, though other sectors are written over in between.
func TestTreesAtRandom(t *testing.T) {
	for seed := range int64(60) {
		r := rand.New(rand.NewSource(seed))
		d := disk.New(100 + r.Intn(100))
		kept := map[int]*tree.Tree{} // by the sector of the root
		where := map[int][]int{}
		for range 30 {
			x := someTree(r, 1+r.Intn(150))
			at := shuffled(r, d.Len(), len(x.Nodes()))
			overwrite(r, d, kept, where, at)
			root, err := Save(d, x, append(slices.Clone(at), r.Perm(5)...))
			if err != api.OK || root != at[0] {
				t.Fatal(root, err)
			}
			kept[root], where[root] = x, at
			for root, x := range kept {
				y, sectors, err := Load(d, root)
				if err != api.OK || !slices.Equal(sectors, where[root]) {
					t.Fatal(sectors, err)
				}
				wantTree(t, "kept", y, x.Nodes())
			}
			if r.Intn(3) == 0 {
				d.Flush()
			}
		}
	}
}

// overwrite forgets the trees that stand in one of the places, and writes some sectors in which none stands.
func overwrite(r *rand.Rand, d *disk.Disk, kept map[int]*tree.Tree, where map[int][]int, places []int) {
	free := make([]bool, d.Len())
	for i := range free {
		free[i] = !slices.Contains(places, i)
	}
	for root, sectors := range where {
		if slices.ContainsFunc(sectors, func(i int) bool { return slices.Contains(places, i) }) {
			delete(kept, root)
			delete(where, root)
			continue
		}
		for _, i := range sectors {
			free[i] = false
		}
	}
	for i := range free {
		if free[i] && r.Intn(3) == 0 {
			d.Write(i, someSector(r, d.Len()))
		}
	}
}

// someSector: a sector that is a node's, or nearly, on a disk of so many sectors.
func someSector(r *rand.Rand, sectors int) api.Sector {
	var n api.Node
	key := uint64(r.Intn(30))
	for range r.Intn(8) {
		n.Keys = append(n.Keys, key)
		key += uint64(r.Intn(4))
	}
	if r.Intn(2) == 0 && len(n.Keys) > 0 {
		for range len(n.Keys) + 1 {
			n.Kids = append(n.Kids, r.Intn(sectors+1))
		}
	} else {
		n = leafNode(n.Keys...)
	}
	s := plainSector(n)
	switch r.Intn(8) {
	case 0:
		s[0] = byte(r.Intn(4))
	case 1:
		s[1] = byte(r.Intn(10))
	case 2:
		s[r.Intn(len(s))] = byte(r.Intn(256))
	}
	return s
}

// met counts which words were broken, and asks that each of some was, often enough.
type met map[string]int

func (m met) want(t *testing.T, times int, words ...string) {
	t.Helper()
	for _, w := range words {
		if m[w] < times {
			t.Errorf("%q was met %d times only: %v", w, m[w], m)
		}
	}
}

// P14.2: disks of sectors drawn at random, from each of them and from where there are none.
func TestDisksAtRandom(t *testing.T) {
	words := met{}
	for seed := range int64(3000) {
		r := rand.New(rand.NewSource(seed))
		d := disk.New(r.Intn(12))
		for i := range d.Len() {
			d.Write(i, someSector(r, d.Len()))
			if r.Intn(8) == 0 {
				d.Flush()
			}
		}
		for root := -1; root <= d.Len(); root++ {
			words[wantLoad(t, "at random "+strconv.Itoa(int(seed)), d, root)]++
		}
	}
	words.want(t, 300, isSo, notThere, notSo, twice, noTree)
}

// P14.2, P1: disks whose bytes are anything.
func TestBytesAtRandom(t *testing.T) {
	words := met{}
	for seed := range int64(300) {
		r := rand.New(rand.NewSource(seed))
		d := disk.New(1 + r.Intn(20))
		for i := range d.Len() {
			var s api.Sector
			r.Read(s[:r.Intn(129)])
			s[0], s[1] = byte(r.Intn(4)), s[1]>>r.Intn(8)
			d.Write(i, s)
			words[wantLoad(t, "bytes", d, i)]++
		}
	}
	words.want(t, 20, notThere, notSo, noTree)
}

// nearly changes one place of the nodes on a disk that stand in these sectors.
func nearly(r *rand.Rand, d *disk.Disk, at []int) {
	i, j := at[r.Intn(len(at))], at[r.Intn(len(at))]
	s, _ := d.Read(i)
	other, _ := d.Read(j)
	n, _ := plainNode(s)
	switch what := r.Intn(10); {
	case what == 0:
		s[r.Intn(len(s))] ^= 1 << r.Intn(8)
	case what == 1:
		s[1] += byte(r.Intn(3) - 1)
	case what == 2:
		s, other = other, s
		d.Write(j, other)
	case what == 3:
		s = other
	case what < 7 && len(n.Kids) > 0:
		odd := []int{i, j, at[0], d.Len(), r.Intn(d.Len()), most}
		n.Kids[r.Intn(len(n.Kids))] = odd[r.Intn(len(odd))]
		s = plainSector(n)
	case len(n.Keys) > 0:
		n.Keys[r.Intn(len(n.Keys))] += uint64(r.Intn(9) - 4)
		s = plainSector(n)
	}
	d.Write(i, s)
}

// P14.2: disks near to right ones, with one change or two.
func TestNearlyRightDisks(t *testing.T) {
	words := met{}
	for seed := range int64(4000) {
		r := rand.New(rand.NewSource(seed))
		x := someTree(r, []int{3, 20, 60, 200}[r.Intn(4)])
		d := disk.New(len(x.Nodes()) + r.Intn(10))
		at := shuffled(r, d.Len(), len(x.Nodes()))
		if _, err := Save(d, x, at); err != api.OK {
			t.Fatal(err)
		}
		for range 1 + r.Intn(2) {
			nearly(r, d, at)
		}
		words[wantLoad(t, "nearly right "+strconv.Itoa(int(seed)), d, at[0])]++
	}
	words.want(t, 50, isSo, notThere, notSo, twice, noTree)
}

// P14.2: great disks near to right ones, of some 600 nodes.
func TestGreatDisks(t *testing.T) {
	words := met{}
	for seed := range int64(40) {
		r := rand.New(rand.NewSource(seed))
		l := layers(1, 3, 15, 90, 488+r.Intn(8))
		d, at := disk.New(1024), shuffled(r, 1024, len(l))
		for i, n := range l {
			n.Kids = slices.Clone(n.Kids)
			for j, kid := range n.Kids {
				n.Kids[j] = at[kid]
			}
			d.Write(at[i], plainSector(n))
		}
		if r.Intn(3) == 0 {
			nearly(r, d, at)
		}
		d.Flush()
		words[wantLoad(t, "great "+strconv.Itoa(int(seed)), d, at[0])]++
	}
	words.want(t, 5, isSo, moreNodes)
}

// anyPlace: a number that may be a place, and may not.
func anyPlace(r *rand.Rand, sectors int) int {
	odd := []int{-1, math.MinInt, most, most + 1, math.MaxInt, sectors, sectors - 1, 0, int(r.Uint64()), int(r.Uint32())}
	if r.Intn(12) > 0 {
		return r.Intn(sectors)
	}
	return odd[r.Intn(len(odd))]
}

// P14.1, P1, P2: any places, any extents, any power: Save does what its words say.
func TestSavesAtRandom(t *testing.T) {
	errs := map[api.Errno]int{}
	for seed := range int64(3000) {
		r := rand.New(rand.NewSource(seed))
		x := someTree(r, []int{0, 3, 20, 60}[r.Intn(4)])
		if r.Intn(8) == 0 {
			x = x.Put(r.Uint64(), api.Extent{Start: anyPlace(r, 9), Len: anyPlace(r, 9)})
		}
		sectors, power := 20+r.Intn(20), r.Intn(30)-8
		var at []int
		for range len(x.Nodes()) + r.Intn(4) - r.Intn(2)*r.Intn(2) {
			at = append(at, anyPlace(r, sectors))
		}
		made := func() *disk.Disk {
			d := disk.New(sectors)
			d.Break(power)
			return d
		}
		_, _, err := wantSave(t, "at random "+strconv.Itoa(int(seed)), made, x, at)
		errs[err]++
	}
	for _, err := range []api.Errno{api.OK, api.ErrNodes, api.ErrSector, api.ErrPower} {
		if errs[err] < 50 {
			t.Errorf("the error %d was met %d times only: %v", err, errs[err], errs)
		}
	}
}
