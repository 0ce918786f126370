package tree

import (
	"math"
	"math/rand"
	"slices"
	"testing"

	"bailey/api"
)

const greatest = uint64(math.MaxUint64)

func at(start, n int) api.Extent { return api.Extent{Start: start, Len: n} }

// extentOf: an extent for a key, with parts below 0 and of many digits among them.
func extentOf(key uint64) api.Extent { return at(int(key*2654435761), -int(key)) }

func pair(key uint64) api.Pair { return api.Pair{Key: key, At: extentOf(key)} }

func pairsOf(keys ...uint64) []api.Pair {
	var l []api.Pair
	for _, k := range keys {
		l = append(l, pair(k))
	}
	return l
}

// model is a plain list of pairs, which rise; like a tree it never changes.
type model []api.Pair

func (m model) without(key uint64) model {
	return slices.DeleteFunc(slices.Clone(m), func(p api.Pair) bool { return p.Key == key })
}

func (m model) put(key uint64, e api.Extent) model {
	l := append(m.without(key), api.Pair{Key: key, At: e})
	slices.SortFunc(l, func(a, b api.Pair) int {
		if a.Key < b.Key {
			return -1
		}
		return 1
	})
	return l
}

func (m model) get(key uint64) (api.Extent, bool) {
	for _, p := range m {
		if p.Key == key {
			return p.At, true
		}
	}
	return api.Extent{}, false
}

func (m model) between(from, to uint64) []api.Pair {
	var l []api.Pair
	for _, p := range m {
		if from <= p.Key && p.Key <= to {
			l = append(l, p)
		}
	}
	return l
}

// around: the keys of the model, those beside them, and both ends.
func (m model) around() []uint64 {
	l := []uint64{0, greatest}
	for _, p := range m {
		l = append(l, p.Key-1, p.Key, p.Key+1)
	}
	slices.Sort(l)
	return slices.Compact(l)
}

// filled: a tree, and its model, in which these keys were put one after the other.
func filled(keys ...uint64) (*Tree, model) {
	x, m := New(), model(nil)
	for _, k := range keys {
		x, m = x.Put(k, extentOf(k)), m.put(k, extentOf(k))
	}
	return x, m
}

func wantPairs(t *testing.T, what string, got, want []api.Pair) {
	t.Helper()
	if !slices.Equal(got, want) {
		t.Fatalf("%s: pairs %v, not %v", what, got, want)
	}
}

func wantGet(t *testing.T, what string, x *Tree, m model, key uint64) {
	t.Helper()
	got, ok := x.Get(key)
	want, wantOk := m.get(key)
	if got != want || ok != wantOk {
		t.Fatalf("%s: Get(%d) = %v, %v, not %v, %v", what, key, got, ok, want, wantOk)
	}
}

func wantRange(t *testing.T, what string, x *Tree, m model, from, to uint64) {
	t.Helper()
	if got, want := x.Range(from, to), m.between(from, to); !slices.Equal(got, want) {
		t.Fatalf("%s: Range(%d, %d) = %v, not %v", what, from, to, got, want)
	}
}

// wantTree holds a tree's count, its pairs and its nodes against a model.
func wantTree(t *testing.T, what string, x *Tree, m model) {
	t.Helper()
	if got := x.Len(); got != len(m) {
		t.Fatalf("%s: Len() = %d, not %d", what, got, len(m))
	}
	wantPairs(t, what, x.Range(0, greatest), m)
	nodes := x.Nodes()
	wantBroken(t, what, nodes)
	wantPairs(t, what+", of its leaves", pairsOfLeaves(nodes), m)
}

// wantAll asks beside that for each key of a model, and those beside it, by Get.
func wantAll(t *testing.T, what string, x *Tree, m model) {
	t.Helper()
	wantTree(t, what, x, m)
	for _, k := range m.around() {
		wantGet(t, what, x, m, k)
	}
}

func TestExample(t *testing.T) { // P8.1, P8.2
	x := New().Put(5, at(10, 2)).Put(3, at(20, 1))
	wantPairs(t, "Range(0, 9)", x.Range(0, 9), []api.Pair{{Key: 3, At: at(20, 1)}, {Key: 5, At: at(10, 2)}})
	l := x.Nodes()
	if len(l) != 1 || !slices.Equal(l[0].Keys, []uint64{3, 5}) || !slices.Equal(l[0].Vals, []api.Extent{at(20, 1), at(10, 2)}) || len(l[0].Kids) != 0 {
		t.Errorf("nodes %v", l)
	}
}

func TestWithoutKeys(t *testing.T) { // P8.1, P8.2
	x, _ := filled(1, 2, 3)
	of, err := Of([]api.Node{{}})
	if err != api.OK {
		t.Fatalf("Of one leaf without keys answers %d", err)
	}
	for _, empty := range []*Tree{New(), of, New().Del(0), New().Del(greatest), x.Del(2).Del(1).Del(3)} {
		wantAll(t, "without keys", empty, nil)
		for _, k := range []uint64{0, 1, 7, greatest} {
			wantTree(t, "without keys, behind Del", empty.Del(k), nil)
			wantRange(t, "without keys", empty, nil, k, k)
			wantRange(t, "without keys", empty, nil, k, 0)
		}
		if l := empty.Nodes(); len(l) != 1 || len(l[0].Keys)+len(l[0].Vals)+len(l[0].Kids) != 0 {
			t.Errorf("a tree without keys has the nodes %v", l)
		}
	}
}

func TestPut(t *testing.T) { // P8.1
	for count := range uint64(70) {
		var keys []uint64
		for i := range count {
			keys = append(keys, 10+10*i)
		}
		x, m := filled(keys...)
		for _, k := range m.around() {
			for _, e := range []api.Extent{{}, at(1, 2), at(math.MinInt, math.MaxInt)} {
				wantTree(t, "behind one Put", x.Put(k, e), m.put(k, e))
				wantGet(t, "behind one Put", x.Put(k, e), m.put(k, e), k)
			}
		}
		wantAll(t, "itself", x, m)
	}
}

func TestDel(t *testing.T) { // P8.1
	for count := range uint64(70) {
		var keys []uint64
		for i := range count {
			keys = append(keys, 10+10*i)
		}
		x, m := filled(keys...)
		for _, k := range m.around() {
			wantTree(t, "behind one Del", x.Del(k), m.without(k))
			wantGet(t, "behind one Del", x.Del(k), m.without(k), k)
			wantTree(t, "behind Del and Put", x.Del(k).Put(k, at(-1, -2)), m.put(k, at(-1, -2)))
			wantTree(t, "behind Del twice", x.Del(k).Del(k), m.without(k))
		}
		wantAll(t, "itself", x, m)
	}
}

func TestBothEnds(t *testing.T) { // P8.1: the keys 0 and the greatest
	x, m := filled(0, greatest)
	wantAll(t, "both ends alone", x, m)
	wantTree(t, "without 0", x.Del(0), pairsOf(greatest))
	wantTree(t, "without the greatest", x.Del(greatest), pairsOf(0))
	var keys []uint64
	for i := range uint64(40) {
		keys = append(keys, i, greatest-i)
	}
	x, m = filled(keys...)
	wantAll(t, "near both ends", x, m)
	for _, k := range []uint64{0, 1, greatest, greatest - 1} {
		wantAll(t, "without one near an end", x.Del(k), m.without(k))
		wantRange(t, "near both ends", x, m, k, k)
	}
	wantRange(t, "near both ends", x, m, greatest, 0)
	wantRange(t, "near both ends", x, m, 40, greatest-40)
}

func TestAnyExtents(t *testing.T) { // P8.1
	parts := []int{math.MinInt, -5, -1, 0, 1, 1023, 1024, 1 << 40, math.MaxInt}
	x, m := New(), model(nil)
	for i, start := range parts {
		for j, n := range parts {
			k := uint64(i*100 + j)
			x, m = x.Put(k, at(start, n)), m.put(k, at(start, n))
		}
	}
	wantAll(t, "any extents", x, m)
	of, err := Of(x.Nodes())
	if err != api.OK {
		t.Fatalf("Of answers %d", err)
	}
	wantAll(t, "any extents, of nodes", of, m)
}

// orders: so many keys rising, falling, from the middle out, and in an order that random draws.
func orders(count int) map[string][]uint64 {
	var rising, outward []uint64
	for i := range count {
		rising = append(rising, uint64(3*i))
	}
	for i := range count {
		// The middle; the one ahead; the one behind it; and so on.
		step := (i + 1) / 2
		if i%2 == 1 {
			step = -step
		}
		outward = append(outward, rising[((count-1)/2-step+count)%count])
	}
	falling := slices.Clone(rising)
	slices.Reverse(falling)
	l := map[string][]uint64{"rising": rising, "falling": falling, "outward": outward}
	for seed, name := range []string{"drawn", "drawn again"} {
		drawn := slices.Clone(rising)
		rand.New(rand.NewSource(int64(seed+count))).Shuffle(count, func(i, j int) { drawn[i], drawn[j] = drawn[j], drawn[i] })
		l[name] = drawn
	}
	return l
}

// TestAllOrders: keys put in each order, then deleted in each order, held behind each act.
func TestAllOrders(t *testing.T) { // P8.1, P8.2
	for _, count := range []int{8, 30, 300} {
		for in, putting := range orders(count) {
			x, m := New(), model(nil)
			for _, k := range putting {
				x, m = x.Put(k, extentOf(k)), m.put(k, extentOf(k))
				wantTree(t, "put "+in, x, m)
			}
			wantAll(t, "put "+in, x, m)
			for out, deleting := range orders(count) {
				y, left := x, m
				for i, k := range deleting {
					y, left = y.Del(k), left.without(k)
					wantTree(t, "put "+in+", deleted "+out, y, left)
					if i%7 == 0 {
						wantAll(t, "put "+in+", deleted "+out, y, left)
					}
				}
				if l := y.Nodes(); len(l) != 1 || y.Len() != 0 {
					t.Fatalf("put %s, deleted %s: %d nodes, %d keys", in, out, len(l), y.Len())
				}
			}
			wantTree(t, "the whole one, put "+in, x, m)
		}
	}
}

// TestRange: from and to at each key, and between any two.
func TestRange(t *testing.T) { // P8.1
	for _, keys := range [][]uint64{{}, {0}, {greatest}, {5}, {5, 6, 8}, {1, 3, 5, 7, 9, 11, 13}, orders(60)["drawn"]} {
		x, m := filled(keys...)
		ends := m.around()
		for _, from := range ends {
			for _, to := range ends {
				wantRange(t, "each from and to", x, m, from, to)
			}
		}
	}
	x, m := filled(10, 20, 30, 40, 50, 60, 70, 80, 90)
	for _, c := range []struct {
		from, to uint64
		keys     []uint64
	}{
		{20, 40, []uint64{20, 30, 40}}, {21, 39, []uint64{30}}, {19, 41, []uint64{20, 30, 40}}, {30, 30, []uint64{30}},
		{31, 39, nil}, {40, 20, nil}, {91, greatest, nil}, {0, 9, nil}, {greatest, 0, nil}, {40, 39, nil},
		{0, greatest, []uint64{10, 20, 30, 40, 50, 60, 70, 80, 90}}, {90, greatest, []uint64{90}}, {0, 10, []uint64{10}},
	} {
		wantPairs(t, "Range", x.Range(c.from, c.to), pairsOf(c.keys...))
	}
	wantTree(t, "behind it all", x, m)
}

// TestGapInside: where no key lies between two leaves any more, a Range there finds none, and one across it both sides.
func TestGapInside(t *testing.T) { // P8.1
	x, m := filled(orders(200)["rising"]...)
	for k := uint64(150); k < 450; k += 3 {
		x, m = x.Del(k), m.without(k)
	}
	wantAll(t, "with a gap", x, m)
	wantPairs(t, "in the gap", x.Range(150, 449), nil)
	wantPairs(t, "across the gap", x.Range(147, 450), pairsOf(147, 450))
}

// known is a tree with what it told as it was made.
type known struct {
	tree  *Tree
	pairs model
	nodes []api.Node
}

func knownOf(x *Tree, m model) known { return known{x, m, x.Nodes()} }

// wantStill: is the tree as it was when it was made?
func (k known) wantStill(t *testing.T, what string) {
	t.Helper()
	wantTree(t, what, k.tree, k.pairs)
	wantNodes(t, what, k.tree.Nodes(), k.nodes)
}

// TestNeverChanges: of one tree others are made, each by one act more; it stays.
func TestNeverChanges(t *testing.T) { // P8.1
	for _, count := range []int{1, 7, 8, 20, 64, 150} {
		x, m := filled(orders(count)["drawn"]...)
		was := knownOf(x, m)
		var made []known
		for _, k := range m.around() {
			made = append(made, knownOf(x.Put(k, at(7, 7)), m.put(k, at(7, 7))), knownOf(x.Del(k), m.without(k)))
		}
		was.wantStill(t, "the one that others were made of")
		for _, k := range made {
			k.wantStill(t, "one that was made of it, with others behind it")
		}
	}
}

// TestTreesFromAnyTree: each act at random begins at any of the trees that were made till then; all of them stay.
func TestTreesFromAnyTree(t *testing.T) { // P8.1, P8.2
	for seed := range int64(6) {
		r := rand.New(rand.NewSource(seed))
		all := []known{knownOf(New(), nil)}
		for range 600 {
			// Most often one of the newest, or no tree would ever be great.
			from := all[len(all)-1-min(r.Intn(len(all)), r.Intn(4))]
			if r.Intn(20) == 0 {
				from = all[r.Intn(len(all))]
			}
			all = append(all, someAct(r, from, 200))
		}
		for _, k := range all {
			k.wantStill(t, "a tree of many")
		}
	}
}

// someAct: another tree by an act at random, more often a Put than a Del.
func someAct(r *rand.Rand, from known, span int) known {
	k := uint64(r.Intn(span))
	if r.Intn(5) < 2 {
		return knownOf(from.tree.Del(k), from.pairs.without(k))
	}
	e := at(r.Int()-math.MaxInt/2, r.Intn(9)-4)
	return knownOf(from.tree.Put(k, e), from.pairs.put(k, e))
}

// TestActsAtRandom: some hundreds of acts, in which keys grow more and fewer by turns, held behind each.
func TestActsAtRandom(t *testing.T) { // P8.1, P8.2, P8.3
	for seed := range int64(8) {
		r := rand.New(rand.NewSource(seed))
		spread := []uint64{1, 1 << 20, 1 << 55, greatest/400 + 1}[seed%4]
		x, m := New(), model(nil)
		for i := range 1200 {
			k := uint64(r.Intn(400)) * spread
			if r.Intn(10) < 3+4*(i/300%2) {
				x, m = x.Del(k), m.without(k)
			} else {
				e := at(r.Intn(2000)-1000, r.Intn(2000)-1000)
				x, m = x.Put(k, e), m.put(k, e)
			}
			wantTree(t, "acts at random", x, m)
			wantGet(t, "acts at random", x, m, k)
			wantGet(t, "acts at random", x, m, uint64(r.Intn(400))*spread)
			wantRange(t, "acts at random", x, m, k, uint64(r.Intn(400))*spread)
			if r.Intn(10) == 0 {
				x = mustOf(t, x.Nodes())
				wantTree(t, "of its nodes", x, m)
			}
		}
		wantAll(t, "behind all acts", x, m)
	}
}

// TestActsAtRandomAgain: the same acts lead to the same nodes, whatever was done to other trees.
func TestActsAtRandomAgain(t *testing.T) { // P2
	lead := func() []api.Node {
		r := rand.New(rand.NewSource(5))
		k := known{tree: New()}
		for range 500 {
			k = someAct(r, k, 150)
		}
		return k.tree.Nodes()
	}
	first := lead()
	for range 5 {
		wantNodes(t, "again", lead(), first)
	}
}

// scrawl writes over a list, its spare room too.
func scrawl[T any](l []T, x T) {
	l = l[:cap(l)]
	for i := range l {
		l[i] = x
	}
}

func scrawlNodes(l []api.Node) {
	for _, n := range l {
		scrawl(n.Keys, 999)
		scrawl(n.Vals, at(-9, -9))
		scrawl(n.Kids, -9)
	}
	scrawl(l, api.Node{Kids: []int{-9}})
}

// TestAnswersAreTheCallersOwn: what is written over, spare room too, is seen neither in the tree nor in another answer.
func TestAnswersAreTheCallersOwn(t *testing.T) { // P8.1, P8.2
	for _, count := range []int{0, 1, 5, 7, 8, 40, 150} {
		x, m := filled(orders(max(count, 1))["drawn"][:count]...)
		other, otherModel := x.Put(1, at(1, 1)), m.put(1, at(1, 1))
		was, otherWas := knownOf(x, m), knownOf(other, otherModel)
		pairs := x.Range(0, greatest)
		scrawl(x.Range(0, greatest), api.Pair{Key: 999})
		scrawlNodes(x.Nodes())
		wantPairs(t, "another answer", pairs, m)
		scrawl(pairs, api.Pair{Key: 999})
		was.wantStill(t, "behind changed answers")
		otherWas.wantStill(t, "behind changed answers of the one that it was made of")
		wantTree(t, "changed behind changed answers", x.Put(4, at(4, 4)), m.put(4, at(4, 4)))
	}
}

// TestListsOfNodesAreApart: what is written over in one node, spare room too, isn't seen in another.
func TestListsOfNodesAreApart(t *testing.T) { // P8.2
	x, _ := filled(orders(150)["drawn"]...)
	want := x.Nodes()
	for i := range want {
		l := x.Nodes()
		scrawl(l[i].Keys, 999)
		scrawl(l[i].Vals, at(-9, -9))
		scrawl(l[i].Kids, -9)
		l[i] = want[i]
		wantNodes(t, "beside the one that was written over", l, want)
	}
}
