package tree

import (
	"math"
	"math/rand"
	"slices"
	"strconv"
	"testing"

	"bailey/api"
)

type nodes = []api.Node

// The words of P8.2, each of which alone can be broken.
const (
	noRoot    = "there is a root"
	leafInner = "a leaf or an inner node"
	atMost    = "at most 7 Keys"
	atLeast   = "at least 3 Keys, but for the root"
	rise      = "in a node the Keys rise"
	kidThere  = "a Kid is a node"
	kidOnce   = "each but the root is a Kid just once"
	inOrder   = "each behind its node, in their order, with all below it"
	asDeep    = "all leaves stand as deep"
	sides     = "Keys below and not below those above"
)

// brokenWords: which words of P8.2 nodes don't keep. What is asked of a whole tree isn't asked of what is none.
func brokenWords(l []api.Node) []string {
	if len(l) == 0 {
		return []string{noRoot}
	}
	var broken []string
	ask := func(word string, kept bool) {
		if !kept && !slices.Contains(broken, word) {
			broken = append(broken, word)
		}
	}
	named := make([]int, len(l))
	for i, n := range l {
		leaf := len(n.Kids) == 0 && len(n.Vals) == len(n.Keys)
		inner := len(n.Vals) == 0 && len(n.Kids) == len(n.Keys)+1 && len(n.Kids) >= 2
		ask(leafInner, leaf || inner)
		ask(atMost, len(n.Keys) <= 7)
		ask(atLeast, i == 0 || len(n.Keys) >= 3)
		ask(rise, doRise(n.Keys))
		for _, kid := range n.Kids {
			ask(kidThere, kid >= 0 && kid < len(l))
			if kid >= 0 && kid < len(l) {
				named[kid]++
			}
		}
	}
	for i, times := range named {
		ask(kidOnce, times == min(i, 1))
	}
	if slices.ContainsFunc(broken, func(w string) bool { return w == kidThere || w == kidOnce || w == leafInner }) {
		return broken
	}
	below := numbersBelow(l, 0)
	var all []int
	for i := range l {
		all = append(all, i)
	}
	ask(inOrder, slices.Equal(below, all))
	ask(asDeep, len(depths(l, 0, 0)) == 1)
	for _, i := range below {
		for at := range l[i].Kids {
			ask(sides, isOnItsSide(l, l[i], at))
		}
	}
	return broken
}

func doRise(keys []uint64) bool {
	for i := range keys {
		for _, later := range keys[i+1:] {
			if later <= keys[i] {
				return false
			}
		}
	}
	return true
}

// numbersBelow: a node's number, and those of all below it, as P8.2 orders them.
func numbersBelow(l []api.Node, i int) []int {
	below := []int{i}
	for _, kid := range l[i].Kids {
		below = append(below, numbersBelow(l, kid)...)
	}
	return below
}

// depths: how deep the leaves stand.
func depths(l []api.Node, i, depth int) map[int]bool {
	if len(l[i].Kids) == 0 {
		return map[int]bool{depth: true}
	}
	found := map[int]bool{}
	for _, kid := range l[i].Kids {
		for d := range depths(l, kid, depth+1) {
			found[d] = true
		}
	}
	return found
}

// isOnItsSide: are the Keys of all nodes below a Kid, with that one, where the Keys ahead of it and behind it say?
func isOnItsSide(l []api.Node, n api.Node, at int) bool {
	for _, i := range numbersBelow(l, n.Kids[at]) {
		for _, k := range l[i].Keys {
			if at > 0 && k < n.Keys[at-1] || at < len(n.Keys) && k >= n.Keys[at] {
				return false
			}
		}
	}
	return true
}

// wantBroken: are just these words broken?
func wantBroken(t *testing.T, what string, l []api.Node, want ...string) {
	t.Helper()
	if got := brokenWords(l); !slices.Equal(got, want) {
		t.Fatalf("%s: of %v broken are %q, not %q", what, l, got, want)
	}
}

// pairsOfLeaves: the pairs in the leaves of nodes, in their order.
func pairsOfLeaves(l []api.Node) []api.Pair {
	var pairs []api.Pair
	for _, n := range l {
		for i, e := range n.Vals {
			pairs = append(pairs, api.Pair{Key: n.Keys[i], At: e})
		}
	}
	return pairs
}

func sameNode(a, b api.Node) bool {
	return slices.Equal(a.Keys, b.Keys) && slices.Equal(a.Vals, b.Vals) && slices.Equal(a.Kids, b.Kids)
}

func wantNodes(t *testing.T, what string, got, want []api.Node) {
	t.Helper()
	if !slices.EqualFunc(got, want, sameNode) {
		t.Fatalf("%s: nodes %v, not %v", what, got, want)
	}
}

// copyOf: the same nodes, in lists of their own.
func copyOf(l []api.Node) []api.Node {
	var c []api.Node
	for _, n := range l {
		c = append(c, api.Node{Keys: slices.Clone(n.Keys), Vals: slices.Clone(n.Vals), Kids: slices.Clone(n.Kids)})
	}
	return c
}

func mustOf(t *testing.T, l []api.Node) *Tree {
	t.Helper()
	x, err := Of(l)
	if err != api.OK || x == nil {
		t.Fatalf("Of(%v) = %v, %d", l, x, err)
	}
	return x
}

// wantNoTree: Of says ErrTree, with no tree, and leaves what it was given.
func wantNoTree(t *testing.T, what string, l []api.Node) {
	t.Helper()
	was := copyOf(l)
	if x, err := Of(l); err != api.ErrTree || x != nil {
		t.Errorf("%s: Of(%v) = %v, %d, not nil, %d", what, l, x, err, api.ErrTree)
	}
	wantNodes(t, what+": what was handed in", l, was)
}

func leaf(keys ...uint64) api.Node {
	n := api.Node{Keys: keys}
	for _, k := range keys {
		n.Vals = append(n.Vals, extentOf(k))
	}
	return n
}

func inner(keys []uint64, kids ...int) api.Node { return api.Node{Keys: keys, Kids: kids} }

func keys(l ...uint64) []uint64 { return l }

// low: two leaves below a root.
func low() []api.Node { return []api.Node{inner(keys(50), 1, 2), leaf(10, 20, 30), leaf(50, 60, 70)} }

// high: two inner nodes with four leaves each below a root.
func high() []api.Node { return grove(4, 4) }

// grove: a root over inner nodes with so many leaves each, of three keys each. The leaves' keys begin with 110, 210 and so on, and above them stand 200, 300 and so on: there is room between.
func grove(leaves ...int) []api.Node {
	l, base := []api.Node{{}}, uint64(100)
	for i, count := range leaves {
		if i > 0 {
			l[0].Keys = append(l[0].Keys, base)
		}
		top := len(l)
		l[0].Kids = append(l[0].Kids, top)
		l = append(l, api.Node{})
		for j := range count {
			if j > 0 {
				l[top].Keys = append(l[top].Keys, base)
			}
			l[top].Kids = append(l[top].Kids, len(l))
			l = append(l, leaf(base+10, base+20, base+30))
			base += 100
		}
	}
	return l
}

// wide: so many leaves of three keys below a root.
func wide(leaves int) []api.Node {
	l := []api.Node{{}}
	for i := range leaves {
		base := uint64(i * 10)
		if i > 0 {
			l[0].Keys = append(l[0].Keys, base)
		}
		l[0].Kids = append(l[0].Kids, i+1)
		l = append(l, leaf(base+1, base+2, base+3))
	}
	return l
}

func TestOfRightNodes(t *testing.T) { // P8.3
	lists := []nodes{
		{{}}, {{Keys: []uint64{}, Vals: []api.Extent{}, Kids: []int{}}}, {leaf(0)}, {leaf(greatest)}, {leaf(4, 9)}, {leaf(1, 2, 3, 4, 5, 6, 7)},
		low(), high(), {inner(keys(3), 1, 2), leaf(0, 1, 2), leaf(greatest-2, greatest-1, greatest)},
		{inner(keys(greatest-2), 1, 2), leaf(0, 1, 2), leaf(greatest-2, greatest-1, greatest)},
		{inner(keys(31), 1, 2), leaf(10, 20, 30), leaf(50, 60, 70)},
		{inner(keys(49), 1, 2), leaf(10, 20, 30), leaf(50, 60, 70)},
		{inner(keys(8), 1, 2), leaf(1, 2, 3, 4, 5, 6, 7), leaf(8, 9, 10, 11, 12, 13, 14)},
	}
	for leaves := 2; leaves <= 8; leaves++ {
		lists = append(lists, wide(leaves))
	}
	for _, l := range lists {
		wantBroken(t, "right nodes", l)
		x, m := mustOf(t, l), model(pairsOfLeaves(l))
		wantAll(t, "of right nodes", x, m)
		for _, k := range m.around() {
			wantTree(t, "of right nodes, behind Put", x.Put(k, at(1, 1)), m.put(k, at(1, 1)))
			wantTree(t, "of right nodes, behind Del", x.Del(k), m.without(k))
		}
		wantTree(t, "of right nodes, behind it all", x, m)
	}
}

// TestOfBrokenNodes: nodes that keep all words of P8.2 but one.
func TestOfBrokenNodes(t *testing.T) { // P8.3, P8.2
	for _, c := range []struct {
		what, word string
		of         nodes
		change     func(l nodes) nodes
	}{
		{"a Val too many in the root", leafInner, nodes{leaf(1, 2)}, func(l nodes) nodes { l[0].Vals = append(l[0].Vals, at(1, 1)); return l }},
		{"a Val too few in the root", leafInner, nodes{leaf(1, 2)}, func(l nodes) nodes { l[0].Vals = l[0].Vals[:1]; return l }},
		{"no Vals in the root", leafInner, nodes{leaf(1, 2)}, func(l nodes) nodes { l[0].Vals = nil; return l }},
		{"a Val and no Keys", leafInner, nodes{{}}, func(l nodes) nodes { l[0].Vals = []api.Extent{{}}; return l }},
		{"a Val too many in a leaf", leafInner, low(), func(l nodes) nodes { l[1].Vals = append(l[1].Vals, at(1, 1)); return l }},
		{"a Val too few in a leaf", leafInner, low(), func(l nodes) nodes { l[2].Vals = l[2].Vals[1:]; return l }},
		{"a Val too few in a deep leaf", leafInner, high(), func(l nodes) nodes { l[10].Vals = l[10].Vals[1:]; return l }},
		{"as many Vals as Keys at an inner node", leafInner, low(), func(l nodes) nodes { l[0].Vals = []api.Extent{at(1, 1)}; return l }},
		{"a Val at an inner node", leafInner, high(), func(l nodes) nodes { l[6].Vals = []api.Extent{at(1, 1)}; return l }},
		{"a Kid too many", leafInner, wide(3), func(l nodes) nodes { l[0].Keys = l[0].Keys[:1]; return l }},
		{"a Kid too few", leafInner, low(), func(l nodes) nodes { l[0].Keys = keys(50, 90); return l }},
		{"a Kid too many below the root", leafInner, high(), func(l nodes) nodes {
			l[6].Kids = append(l[6].Kids, 11)
			return append(l, leaf(840, 850, 860))
		}},
		{"a Kid too few below the root", leafInner, high(), func(l nodes) nodes { l[6].Kids = l[6].Kids[:3]; return l[:10] }},
		{"one Kid alone and no Keys", leafInner, nodes{inner(nil, 1), leaf(1, 2, 3)}, nil},
		{"one Kid alone and one Key", leafInner, nodes{inner(keys(5), 1), leaf(1, 2, 3)}, nil},
		{"8 Keys in the root", atMost, nodes{leaf(1, 2, 3, 4, 5, 6, 7, 8)}, nil},
		{"8 Keys in a leaf", atMost, low(), func(l nodes) nodes { l[1] = leaf(1, 2, 3, 4, 5, 6, 7, 8); return l }},
		{"8 Keys in an inner root", atMost, wide(9), nil},
		{"8 Keys in an inner node, the first", atMost, grove(9, 4), nil},
		{"8 Keys in an inner node, the last", atMost, grove(4, 9), nil},
		{"8 Keys in a deep leaf", atMost, high(), func(l nodes) nodes { l[4] = leaf(310, 311, 312, 313, 314, 315, 316, 317); return l }},
		{"2 Keys in a leaf", atLeast, low(), func(l nodes) nodes { l[1] = leaf(10, 20); return l }},
		{"no Keys in a leaf", atLeast, low(), func(l nodes) nodes { l[2] = leaf(); return l }},
		{"2 Keys in a deep leaf", atLeast, high(), func(l nodes) nodes { l[8] = leaf(610, 620); return l }},
		{"2 Keys in an inner node, the first", atLeast, grove(3, 4), nil},
		{"2 Keys in an inner node, the last", atLeast, grove(4, 3), nil},
		{"one Key in an inner node", atLeast, grove(4, 2, 4), nil},
		{"equal Keys in the root", rise, nodes{leaf(1, 2, 2, 3)}, nil},
		{"Keys that fall in the root", rise, nodes{leaf(1, 3, 2)}, nil},
		{"the first two equal", rise, nodes{leaf(0, 0)}, nil},
		{"the last two equal", rise, nodes{leaf(1, 2, 3, 4, 5, greatest, greatest)}, nil},
		{"equal Keys in a leaf", rise, low(), func(l nodes) nodes { l[2].Keys[2] = 60; return l }},
		{"Keys that fall in a leaf", rise, low(), func(l nodes) nodes { l[1].Keys[0] = 25; return l }},
		{"Keys that fall in a deep leaf", rise, high(), func(l nodes) nodes { l[5].Keys[1] = 440; return l }},
		{"a Kid that isn't there, beside all that are", kidThere, wide(3), func(l nodes) nodes { l[0].Keys, l[0].Kids = keys(10, 20, 30), []int{1, 2, 3, 4}; return l }},
		{"a Kid far beyond", kidThere, wide(3), func(l nodes) nodes {
			l[0].Keys, l[0].Kids = keys(10, 20, 30), []int{1, 2, 3, math.MaxInt}
			return l
		}},
		{"a Kid below 0, beside all that are", kidThere, wide(3), func(l nodes) nodes { l[0].Keys, l[0].Kids = keys(0, 10, 20), []int{-1, 1, 2, 3}; return l }},
		{"a Kid far below 0", kidThere, wide(3), func(l nodes) nodes {
			l[0].Keys, l[0].Kids = keys(10, 20, 30), []int{1, 2, 3, math.MinInt}
			return l
		}},
		{"a Kid twice", kidOnce, low(), func(l nodes) nodes { l[0].Keys, l[0].Kids = keys(50, 90), []int{1, 2, 2}; return l }},
		{"a Kid twice, the first", kidOnce, low(), func(l nodes) nodes { l[0].Keys, l[0].Kids = keys(5, 50), []int{1, 1, 2}; return l }},
		{"a Kid twice, and another not", kidOnce, low(), func(l nodes) nodes { l[0].Kids[1] = 1; return l }},
		{"a Kid of two nodes", kidOnce, high(), func(l nodes) nodes {
			l[1].Keys, l[1].Kids = keys(200, 300, 400, 450), []int{2, 3, 4, 5, 7}
			return l
		}},
		{"the root its own Kid", kidOnce, low(), func(l nodes) nodes { l[0].Keys, l[0].Kids = keys(5, 50), []int{0, 1, 2}; return l }},
		{"the root its own last Kid", kidOnce, low(), func(l nodes) nodes { l[0].Kids[1] = 0; return l }},
		{"a node its own Kid", kidOnce, high(), func(l nodes) nodes { l[6].Kids[0] = 6; return l }},
		{"the root a Kid", kidOnce, high(), func(l nodes) nodes { l[6].Kids[3] = 0; return l }},
		{"a Kid ahead of its node that is another's too", kidOnce, high(), func(l nodes) nodes { l[6].Kids[0] = 5; return l }},
		{"a node that no Kid names", kidOnce, low(), func(l nodes) nodes { return append(l, leaf(80, 90, 95)) }},
		{"a node in the middle that no Kid names", kidOnce, low(), func(l nodes) nodes {
			return nodes{inner(keys(50), 1, 3), l[1], leaf(40, 41, 42), l[2]}
		}},
		{"a node right behind the root that no Kid names", kidOnce, low(), func(l nodes) nodes {
			return nodes{inner(keys(50), 2, 3), leaf(1, 2, 3), l[1], l[2]}
		}},
		{"two leaves and no node above", kidOnce, nodes{leaf(1, 2, 3), leaf(5, 6, 7)}, nil},
		{"a whole tree behind a tree", kidOnce, low(), func(l nodes) nodes {
			return append(l, inner(keys(150, 250, 350), 4, 5, 6, 7), leaf(110, 120, 130), leaf(210, 220, 230), leaf(310, 320, 330), leaf(410, 420, 430))
		}},
		{"Kids in another order", inOrder, low(), func(l nodes) nodes { l[0].Kids = []int{2, 1}; l[1], l[2] = l[2], l[1]; return l }},
		{"two deep leaves that have changed places", inOrder, high(), func(l nodes) nodes { l[6].Kids[1], l[6].Kids[2] = 9, 8; l[8], l[9] = l[9], l[8]; return l }},
		{"leaves of two nodes that have changed places", inOrder, high(), func(l nodes) nodes { l[1].Kids[3], l[6].Kids[0] = 7, 5; l[5], l[7] = l[7], l[5]; return l }},
		{"a leaf ahead of its node", inOrder, high(), func(l nodes) nodes {
			// The second inner node stands behind its first leaf.
			l[0].Kids[1], l[6].Kids[0] = 7, 6
			l[6], l[7] = l[7], l[6]
			return l
		}},
		{"all inner nodes ahead of all leaves", inOrder, high(), func(l nodes) nodes {
			first, second := inner(keys(200, 300, 400), 3, 4, 5, 6), inner(keys(600, 700, 800), 7, 8, 9, 10)
			return append(nodes{inner(keys(500), 1, 2), first, second}, slices.Concat(l[2:6], l[7:])...)
		}},
		{"nodes that are Kids of one another alone", inOrder, nodes{leaf(1), inner(keys(20, 30, 40), 1, 2, 3, 4), leaf(21, 22, 23), leaf(31, 32, 33), leaf(41, 42, 43)}, nil},
		{"a leaf less deep, the last", asDeep, high(), func(l nodes) nodes { l[0].Kids[1] = 6; return append(l[:6], leaf(510, 520, 530)) }},
		{"a leaf less deep, the first", asDeep, high(), func(l nodes) nodes {
			return append(nodes{inner(keys(500), 1, 2), leaf(10, 20, 30), inner(keys(600, 700, 800), 3, 4, 5, 6)}, l[7:]...)
		}},
		{"a leaf less deep, between", asDeep, high(), func(l nodes) nodes {
			root, second := inner(keys(500, 550), 1, 6, 7), inner(keys(600, 700, 800), 8, 9, 10, 11)
			l[7] = leaf(560, 570, 580)
			return slices.Concat(nodes{root}, l[1:6], nodes{leaf(510, 520, 530), second}, l[7:])
		}},
		{"a Key of the first leaf at the one behind", sides, low(), func(l nodes) nodes { l[1].Keys[2] = 50; return l }},
		{"a Key of the first leaf above the one behind", sides, low(), func(l nodes) nodes { l[1].Keys[2] = 55; return l }},
		{"a Key of the last leaf below the one ahead", sides, low(), func(l nodes) nodes { l[2].Keys[0] = 49; return l }},
		{"a Key of a middle leaf below the one ahead", sides, wide(4), func(l nodes) nodes { l[2].Keys[0] = 9; return l }},
		{"a Key of a middle leaf at the one behind", sides, wide(4), func(l nodes) nodes { l[2].Keys[2] = 20; return l }},
		{"the Key above too low", sides, low(), func(l nodes) nodes { l[0].Keys[0] = 30; return l }},
		{"the Key above too high", sides, low(), func(l nodes) nodes { l[0].Keys[0] = 51; return l }},
		{"the Key above 0", sides, low(), func(l nodes) nodes { l[0].Keys[0] = 0; return l }},
		{"the Key above the greatest", sides, low(), func(l nodes) nodes { l[0].Keys[0] = greatest; return l }},
		{"leaves with all their Keys changed over", sides, low(), func(l nodes) nodes { l[1], l[2] = l[2], l[1]; return l }},
		{"a Key on the wrong side two nodes up, at it", sides, high(), func(l nodes) nodes { l[5].Keys[2] = 500; return l }},
		{"a Key on the wrong side two nodes up, above it", sides, high(), func(l nodes) nodes { l[5].Keys[2] = 900; return l }},
		{"a Key on the wrong side two nodes up, below it", sides, high(), func(l nodes) nodes { l[7].Keys[0] = 499; return l }},
		{"a whole leaf on the wrong side two nodes up", sides, high(), func(l nodes) nodes { l[7] = leaf(1, 2, 3); return l }},
		{"an inner node's Key on the wrong side", sides, high(), func(l nodes) nodes { l[1].Keys[2] = 505; l[5] = leaf(510, 520, 530); return l }},
		{"the root's Key among those of an inner node", sides, high(), func(l nodes) nodes { l[0].Keys[0] = 405; return l }},
	} {
		l := c.of
		if c.change != nil {
			wantBroken(t, c.what+", ahead of the change", l)
			mustOf(t, l)
			l = c.change(copyOf(l))
		}
		wantBroken(t, c.what, l, c.word)
		wantNoTree(t, c.what, l)
	}
	wantNoTree(t, "nil", nil)
	wantNoTree(t, "no nodes", nodes{})
}

// TestOfKeysAboveThatDontRise: no Key below can be between two that don't rise.
func TestOfKeysAboveThatDontRise(t *testing.T) { // P8.3, P8.2
	for _, c := range []struct {
		of   []api.Node
		node int
		keys []uint64
	}{
		{wide(3), 0, keys(10, 10)}, {wide(3), 0, keys(20, 20)}, {wide(3), 0, keys(20, 10)}, {wide(4), 0, keys(10, 30, 20)},
		{high(), 1, keys(200, 300, 300)}, {high(), 6, keys(600, 600, 800)}, {high(), 6, keys(800, 700, 600)},
	} {
		c.of[c.node].Keys = c.keys
		wantBroken(t, "Keys above that don't rise", c.of, rise, sides)
		wantNoTree(t, "Keys above that don't rise", c.of)
	}
}

// TestOfOddNumbersOfKids: each Kid of each node, named by each number about the edges, but by its own.
func TestOfOddNumbersOfKids(t *testing.T) { // P8.3, P1
	for _, right := range [][]api.Node{low(), wide(3), wide(8), high(), grove(4, 8, 5)} {
		mustOf(t, right)
		for i, n := range right {
			for at, own := range n.Kids {
				numbers := []int{math.MinInt, math.MinInt32, -2, -1, len(right), len(right) + 1, 1 << 32, math.MaxInt}
				for k := range right {
					numbers = append(numbers, k, k-len(right), k+1<<32)
				}
				for _, k := range numbers {
					if k == own {
						continue
					}
					l := copyOf(right)
					l[i].Kids[at] = k
					wantNoTree(t, "the Kid "+strconv.Itoa(k)+" in the place of "+strconv.Itoa(own), l)
				}
			}
		}
	}
}

// TestOfPieces: nodes of which the last ones, the first ones or one between are gone, or one comes twice.
func TestOfPieces(t *testing.T) { // P8.3
	for _, right := range [][]api.Node{low(), wide(5), high(), grove(5, 4, 6)} {
		for i := range right {
			if i > 0 {
				wantNoTree(t, "the first ones", right[:i])
			}
			wantNoTree(t, "one gone", slices.Delete(copyOf(right), i, i+1))
			wantNoTree(t, "one twice", slices.Insert(copyOf(right), i, right[i]))
			if i > 0 && len(right[i].Kids) > 0 {
				wantNoTree(t, "the last ones", right[i:])
			}
		}
	}
}

// TestOfManyNodes: lists that are long, or deep, or both: Of ends.
func TestOfManyNodes(t *testing.T) { // P1, P8.3
	const many = 300000
	numbers := make([]int, many+8)
	for i := range numbers {
		numbers[i] = i
	}
	var chain, leaves []api.Node
	for i := range many {
		chain = append(chain, api.Node{Keys: keys(1, 2, 3), Kids: numbers[i+1 : i+5]})
		leaves = append(leaves, leaf(1, 2, 3))
	}
	for what, l := range map[string][]api.Node{
		"nodes each below the one ahead": chain,
		"such, with leaves behind them":  append(slices.Clip(chain), leaves...),
		"leaves alone":                   leaves,
		"leaves below a root":            append([]api.Node{{Keys: make([]uint64, many-1), Kids: numbers[1 : many+1]}}, leaves...),
		"one leaf of many keys":          {{Keys: make([]uint64, many), Vals: make([]api.Extent, many)}},
		"one node of many Kids":          {{Keys: make([]uint64, many), Kids: numbers[:many+1]}},
		"each node its own Kid":          slices.Repeat([]api.Node{{Keys: keys(1, 2, 3), Kids: []int{0, 0, 0, 0}}}, many),
	} {
		if x, err := Of(l); err != api.ErrTree || x != nil {
			t.Errorf("%s: Of answers %d", what, err)
		}
	}
}

// TestOfNodesOfATree: the same pairs; and a tree that can be changed as the one that it is of.
func TestOfNodesOfATree(t *testing.T) { // P8.3
	for count := range 120 {
		x, m := filled(orders(max(count, 1))["drawn"][:count]...)
		of := mustOf(t, x.Nodes())
		wantAll(t, "of its nodes", of, m)
		for _, k := range m.around() {
			wantTree(t, "of its nodes, behind Put", of.Put(k, at(1, 1)), m.put(k, at(1, 1)))
			wantTree(t, "of its nodes, behind Del", of.Del(k), m.without(k))
		}
		left := m
		for _, p := range m {
			of, left = of.Del(p.Key), left.without(p.Key)
			wantTree(t, "of its nodes, deleted rising", of, left)
		}
		wantTree(t, "itself", x, m)
	}
}

// TestOfKeepsNothing: what was handed in is written over behind Of, spare room too; and Of has written nothing there.
func TestOfKeepsNothing(t *testing.T) { // P8.3
	for _, right := range [][]api.Node{{{}}, {leaf(1, 2)}, low(), wide(8), high()} {
		var l []api.Node
		for _, n := range right {
			// Spare room behind each list, in which nothing may be laid.
			roomy := api.Node{Keys: slices.Grow(slices.Clone(n.Keys), 9), Vals: slices.Grow(slices.Clone(n.Vals), 9), Kids: slices.Grow(slices.Clone(n.Kids), 9)}
			scrawl(roomy.Keys[len(n.Keys):], 999)
			scrawl(roomy.Vals[len(n.Vals):], at(-9, -9))
			scrawl(roomy.Kids[len(n.Kids):], -9)
			l = append(l, roomy)
		}
		m := model(pairsOfLeaves(right))
		was := knownOf(mustOf(t, l), m)
		x := was.tree
		for _, k := range m.around() {
			x = x.Put(k, at(1, 1))
		}
		wantNodes(t, "what was handed in", l, right)
		for i, n := range l {
			for _, k := range n.Keys[len(n.Keys):cap(n.Keys)] {
				if k != 999 {
					t.Errorf("node %d: the spare room of Keys was written", i)
				}
			}
			for _, e := range n.Vals[len(n.Vals):cap(n.Vals)] {
				if e != at(-9, -9) {
					t.Errorf("node %d: the spare room of Vals was written", i)
				}
			}
		}
		scrawlNodes(l)
		was.wantStill(t, "behind what was handed in was changed")
	}
}

// TestKeysAboveThatAreNone: an inner node's Key whose own pair is gone.
func TestKeysAboveThatAreNone(t *testing.T) { // P8.1, P8.2, P8.3
	seen := 0
	for _, name := range []string{"rising", "falling", "drawn"} {
		x, m := filled(orders(150)[name]...)
		for _, n := range x.Nodes() {
			if len(n.Kids) == 0 {
				continue
			}
			for _, k := range n.Keys {
				gone, left := x.Del(k), m.without(k)
				wantAll(t, "without a Key of an inner node", gone, left)
				wantRange(t, "without a Key of an inner node", gone, left, k, k)
				wantAll(t, "with it again", gone.Put(k, at(3, 3)), m.put(k, at(3, 3)))
				wantAll(t, "without it, of its nodes", mustOf(t, gone.Nodes()), left)
				seen += strayKeys(gone)
			}
		}
		for _, n := range x.Nodes() {
			for _, k := range n.Keys {
				if len(n.Kids) > 0 {
					x, m = x.Del(k), m.without(k)
				}
			}
		}
		wantAll(t, "without any of the Keys that inner nodes had", x, m)
	}
	if seen == 0 {
		t.Error("no inner node ever had a Key that is none of the tree's: this test asks nothing")
	}
}

// strayKeys: how many Keys of inner nodes are no keys of the tree.
func strayKeys(x *Tree) int {
	count := 0
	for _, n := range x.Nodes() {
		for _, k := range n.Keys {
			if _, ok := x.Get(k); !ok {
				count++
			}
		}
	}
	return count
}

// gardener makes right nodes of any shape, with keys that rise from one leaf to the next.
type gardener struct {
	r    *rand.Rand
	next uint64
	l    []api.Node
}

// key: an odd one, above all that were made till then; so the even one between them, or the next odd one, may stand above.
func (g *gardener) key() uint64 {
	g.next += 2 * uint64(1+g.r.Intn(3))
	return g.next - 1
}

// grow lays a node of a height, with at least so many Keys, and all below it.
func (g *gardener) grow(height, fewest int) {
	count := fewest + g.r.Intn(api.MaxKeys+1-fewest)
	if g.r.Intn(2) == 0 {
		// Often as few as can be, or as many.
		count = []int{fewest, api.MaxKeys}[g.r.Intn(2)]
	}
	at, n := len(g.l), api.Node{}
	g.l = append(g.l, n)
	if height == 0 {
		for range count {
			n.Keys = append(n.Keys, g.key())
		}
		g.l[at] = leaf(n.Keys...)
		return
	}
	for i := range count + 1 {
		if i > 0 {
			n.Keys = append(n.Keys, g.next+uint64(g.r.Intn(2)))
		}
		n.Kids = append(n.Kids, len(g.l))
		g.grow(height-1, api.MinKeys)
	}
	g.l[at] = n
}

// someNodes: right nodes of a height, at random.
func someNodes(r *rand.Rand, height int) []api.Node {
	g := gardener{r: r}
	g.grow(height, min(height, 1))
	return g.l
}

// TestShapesAtRandom: right nodes of shapes that no Put might ever make; each single act on them, and all keys deleted.
func TestShapesAtRandom(t *testing.T) { // P8.1, P8.2, P8.3
	for seed := range int64(60) {
		r := rand.New(rand.NewSource(seed))
		l := someNodes(r, int(seed%3))
		wantBroken(t, "nodes at random", l)
		x, m := mustOf(t, l), model(pairsOfLeaves(l))
		wantAll(t, "of nodes at random", x, m)
		for range 150 {
			k := uint64(r.Intn(int(m.last()) + 3))
			wantTree(t, "of nodes at random, behind Put", x.Put(k, at(1, 1)), m.put(k, at(1, 1)))
			wantTree(t, "of nodes at random, behind Del", x.Del(k), m.without(k))
		}
		y, left := x, m
		for _, i := range r.Perm(len(m)) {
			y, left = y.Del(m[i].Key), left.without(m[i].Key)
			wantTree(t, "of nodes at random, deleted", y, left)
		}
		wantTree(t, "of nodes at random, behind it all", x, m)
	}
}

func (m model) last() uint64 {
	if len(m) == 0 {
		return 0
	}
	return m[len(m)-1].Key
}

// someChange changes one place of nodes.
func someChange(r *rand.Rand, l []api.Node) []api.Node {
	i := r.Intn(len(l))
	n := &l[i]
	odd := []int{-1, 0, 1, len(l) - 1, len(l), i, i + 1, r.Intn(len(l))}[r.Intn(8)]
	switch what := r.Intn(10); {
	case what == 0:
		n.Vals = append(n.Vals, at(1, 1))
	case what == 1:
		n.Kids = append(n.Kids, odd)
	case what == 2 && len(n.Kids) > 0:
		n.Kids[r.Intn(len(n.Kids))] = odd
	case what == 3 && len(n.Kids) > 1:
		j := 1 + r.Intn(len(n.Kids)-1)
		n.Kids[j-1], n.Kids[j] = n.Kids[j], n.Kids[j-1]
	case what == 4:
		j := r.Intn(len(l))
		l[i], l[j] = l[j], l[i]
	case what == 5:
		return slices.Delete(l, i, i+1)
	case what == 6:
		return slices.Insert(l, i, copyOf(l[i:i+1])...)
	case what == 7 && len(n.Vals) > 0 && len(n.Keys) > 0:
		n.Keys, n.Vals = n.Keys[1:], n.Vals[1:]
	case len(n.Keys) > 0:
		j := r.Intn(len(n.Keys))
		n.Keys[j] += uint64(r.Intn(7) - 3)
	}
	return l
}

// TestChangesAtRandom: right nodes with one change or two: Of has an error just where a word is broken.
func TestChangesAtRandom(t *testing.T) { // P8.2, P8.3
	count := map[bool]int{}
	for seed := range int64(20000) {
		r := rand.New(rand.NewSource(seed))
		l := someNodes(r, []int{0, 1, 1, 1, 2}[r.Intn(5)])
		for range 1 + r.Intn(2) {
			if len(l) > 0 {
				l = someChange(r, l)
			}
		}
		broken := brokenWords(l)
		count[len(broken) == 0]++
		if len(broken) > 0 {
			wantNoTree(t, broken[0], l)
			continue
		}
		wantTree(t, "changed, and right", mustOf(t, l), pairsOfLeaves(l))
	}
	if count[true] < 1000 || count[false] < 1000 {
		t.Errorf("right and not right: %v: too few to ask anything", count)
	}
}
