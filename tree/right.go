package tree

import (
	"slices"

	"bailey/api"
)

// branch is a node that was told, by its number, with all below it; height is how far above the leaves it stands.
type branch struct {
	number, height int
	top            *node
}

// joined: the root of nodes that are told, if they make one tree; which keys stand where isn't asked yet.
func joined(l []api.Node) (*node, bool) {
	// From the last one on, for so a node's kids are made ahead of it, and nodes that stand too deep need no call for each step down.
	var branches []branch
	for i := len(l) - 1; i >= 0; i-- {
		if !isShaped(l[i], i == 0) || len(l[i].Kids) > len(branches) {
			return nil, false
		}
		rest := len(branches) - len(l[i].Kids)
		b, ok := branchOf(i, l[i], branches[rest:])
		if !ok {
			return nil, false
		}
		branches = append(branches[:rest], b)
	}
	if len(branches) != 1 {
		return nil, false
	}
	return branches[0].top, true
}

// isShaped: is a node a leaf or an inner node, with as many keys as it may have, which rise?
func isShaped(n api.Node, isRoot bool) bool {
	count := len(n.Keys)
	isLeaf := len(n.Kids) == 0 && len(n.Vals) == count
	isInner := len(n.Vals) == 0 && len(n.Kids) == count+1 && count > 0
	if !isLeaf && !isInner || count > api.MaxKeys || count < api.MinKeys && !isRoot {
		return false
	}
	for i := 1; i < count; i++ {
		if n.Keys[i-1] >= n.Keys[i] {
			return false
		}
	}
	return true
}

// branchOf: a node on top of the branches behind it, the nearest of which stands last, if its Kids are just these in their order, and all equally high.
func branchOf(number int, n api.Node, behind []branch) (branch, bool) {
	b := branch{number: number, top: &node{keys: slices.Clone(n.Keys), vals: slices.Clone(n.Vals)}}
	for i, told := range n.Kids {
		kid := behind[len(behind)-1-i]
		if kid.number != told || kid.height != behind[0].height {
			return branch{}, false
		}
		b.height = kid.height + 1
		b.top.kids = append(b.top.kids, kid.top)
	}
	return b, true
}

// bounds are a key that is the least one that may be, and one that is too great, unless they are endless.
type bounds struct {
	least, end uint64
	endless    bool
}

// excludes: does a key lie out of bounds?
func (b bounds) excludes(key uint64) bool {
	return key < b.least || !b.endless && key >= b.end
}

// below: the bounds of the kid i of a node with these keys, which are within bounds themselves.
func (b bounds) below(keys []uint64, i int) bounds {
	if i > 0 {
		b.least = keys[i-1]
	}
	if i < len(keys) {
		b.end, b.endless = keys[i], false
	}
	return b
}

// within: are all keys of the node, and of those below it, where they belong?
func (n *node) within(b bounds) bool {
	if slices.ContainsFunc(n.keys, b.excludes) {
		return false
	}
	for i, kid := range n.kids {
		if !kid.within(b.below(n.keys, i)) {
			return false
		}
	}
	return true
}
