package tree

import (
	"slices"

	"bailey/api"
)

// node is a leaf, with a value for each key, or an inner node, with one kid more than keys. Many trees share it: neither it nor its lists change once it is made.
type node struct {
	keys []uint64
	vals []api.Extent
	kids []*node
}

func (n *node) isLeaf() bool { return len(n.kids) == 0 }

// span: from where to where a key stands in the node's list; from and to are one place, if it isn't there.
func (n *node) span(key uint64) (from, to int) {
	from, found := slices.BinarySearch(n.keys, key)
	if found {
		return from, from + 1
	}
	return from, from
}

// way: below which kid a key belongs.
func (n *node) way(key uint64) int {
	_, i := n.span(key)
	return i
}

// visit goes through the pairs below the node, rising, beginning with from, till see says no; did it never?
func (n *node) visit(from uint64, see func(api.Pair) bool) bool {
	if n.isLeaf() {
		first, _ := n.span(from)
		for i := first; i < len(n.keys); i++ {
			if !see(api.Pair{Key: n.keys[i], At: n.vals[i]}) {
				return false
			}
		}
		return true
	}
	for _, kid := range n.kids[n.way(from):] {
		if !kid.visit(from, see) {
			return false
		}
	}
	return true
}

// count: how many keys the leaves below the node have.
func (n *node) count() int {
	if n.isLeaf() {
		return len(n.keys)
	}
	count := 0
	for _, kid := range n.kids {
		count += kid.count()
	}
	return count
}

// list adds the node, and all below it behind it.
func (n *node) list(l []api.Node) []api.Node {
	at := len(l)
	l = append(l, api.Node{Keys: slices.Clone(n.keys), Vals: slices.Clone(n.vals)})
	var kids []int
	for _, kid := range n.kids {
		kids = append(kids, len(l))
		l = kid.list(l)
	}
	l[at].Kids = kids
	return l
}

// put: the node with a key's extent. It may have one key too many, which is for the node above to mend.
func (n *node) put(key uint64, at api.Extent) *node {
	if !n.isLeaf() {
		i := n.way(key)
		return n.with(i, n.kids[i].put(key, at))
	}
	from, to := n.span(key)
	return &node{keys: spliced(n.keys, from, to, key), vals: spliced(n.vals, from, to, at)}
}

// del: the node without a key. It may have one key too few, which is for the node above to mend.
func (n *node) del(key uint64) *node {
	if n.isLeaf() {
		from, to := n.span(key)
		return &node{keys: spliced(n.keys, from, to), vals: spliced(n.vals, from, to)}
	}
	i := n.way(key)
	kid := n.kids[i].del(key)
	if len(kid.keys) < api.MinKeys {
		return n.with(i, kid).fused(max(0, i-1))
	}
	return n.with(i, kid)
}

// with: the node with another kid i, which is split in two if it has too many keys.
func (n *node) with(i int, kid *node) *node {
	if len(kid.keys) <= api.MaxKeys {
		return &node{keys: n.keys, kids: spliced(n.kids, i, i+1, kid)}
	}
	left, key, right := kid.halves()
	return &node{keys: spliced(n.keys, i, i, key), kids: spliced(n.kids, i, i+1, left, right)}
}

// fused: the node with its kids i and i+1 made one, or two again where one would be too great: neither has too few keys then.
func (n *node) fused(i int) *node {
	left, right := n.kids[i], n.kids[i+1]
	one := &node{keys: slices.Concat(left.keys, right.keys), vals: slices.Concat(left.vals, right.vals)}
	if !left.isLeaf() {
		// The key between them is needed between the last kid of the one and the first of the other.
		one = &node{keys: slices.Concat(left.keys, n.keys[i:i+1], right.keys), kids: slices.Concat(left.kids, right.kids)}
	}
	fewer := &node{keys: spliced(n.keys, i, i+1), kids: spliced(n.kids, i, i+1)}
	return fewer.with(i, one)
}

// halves: the node in two, and the key that stands between them above.
func (n *node) halves() (left *node, key uint64, right *node) {
	middle := len(n.keys) / 2
	key = n.keys[middle]
	if n.isLeaf() {
		left = &node{keys: n.keys[:middle], vals: n.vals[:middle]}
		right = &node{keys: n.keys[middle:], vals: n.vals[middle:]}
		return left, key, right
	}
	// An inner node's middle key goes up; a leaf's stays, for it has a value.
	left = &node{keys: n.keys[:middle], kids: n.kids[:middle+1]}
	right = &node{keys: n.keys[middle+1:], kids: n.kids[middle+1:]}
	return left, key, right
}

// spliced: a new list, with others in the place of those from one place up to another.
func spliced[T any](l []T, from, to int, others ...T) []T {
	return slices.Concat(l[:from], others, l[to:])
}
