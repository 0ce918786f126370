package nodes

import (
	"slices"
	"strings"

	"bailey/api"
	"bailey/codec"
)

// The first byte of a node's sector.
const (
	leaf  = 1
	inner = 2
)

// shapeOf: how a node of so many keys is packed; of a kind, or a count, that no node has there is no shape.
func shapeOf(kind, keys int) string {
	switch {
	case keys > api.MaxKeys:
		return ""
	case kind == leaf:
		return "11" + strings.Repeat("844", keys)
	case kind == inner:
		return "11" + strings.Repeat("8", keys) + strings.Repeat("4", keys+1)
	}
	return ""
}

// sizeOf: how many bytes a shape of numbers takes.
func sizeOf(shape string) int {
	size := 0
	for i := range len(shape) {
		size += int(shape[i] - '0')
	}
	return size
}

// packed: the sector of a node whose Kids are sectors, if there is room for all its numbers.
func packed(n api.Node) (api.Sector, bool) {
	kind, fields := inner, innerFields(n)
	if len(n.Kids) == 0 {
		kind, fields = leaf, leafFields(n)
	}
	head := []api.Field{{Num: uint64(kind)}, {Num: uint64(len(n.Keys))}}
	b, err := codec.Pack(shapeOf(kind, len(n.Keys)), append(head, fields...)...)
	var s api.Sector
	copy(s[:], b)
	return s, err == api.OK
}

func leafFields(n api.Node) []api.Field {
	var fields []api.Field
	for i, k := range n.Keys {
		// What is below 0 goes round to more than four bytes can tell, so that it isn't packed.
		start, size := uint64(n.Vals[i].Start), uint64(n.Vals[i].Len)
		fields = append(fields, api.Field{Num: k}, api.Field{Num: start}, api.Field{Num: size})
	}
	return fields
}

func innerFields(n api.Node) []api.Field {
	var fields []api.Field
	for _, k := range n.Keys {
		fields = append(fields, api.Field{Num: k})
	}
	for _, kid := range n.Kids {
		fields = append(fields, api.Field{Num: uint64(kid)})
	}
	return fields
}

// unpacked: the node, its Kids being sectors, of which this is the sector, if there is one.
func unpacked(s api.Sector) (api.Node, bool) {
	kind, keys := int(s[0]), int(s[1])
	shape := shapeOf(kind, keys)
	size := sizeOf(shape)
	if shape == "" || slices.ContainsFunc(s[size:], func(b byte) bool { return b != 0 }) {
		return api.Node{}, false
	}
	fields, err := codec.Unpack(shape, s[:size])
	if err != api.OK {
		return api.Node{}, false
	}
	if kind == leaf {
		return leafOf(fields[2:]), true
	}
	return innerOf(fields[2:], keys), true
}

func leafOf(fields []api.Field) api.Node {
	var n api.Node
	for f := range slices.Chunk(fields, 3) {
		n.Keys = append(n.Keys, f[0].Num)
		n.Vals = append(n.Vals, api.Extent{Start: int(f[1].Num), Len: int(f[2].Num)})
	}
	return n
}

func innerOf(fields []api.Field, keys int) api.Node {
	var n api.Node
	for _, f := range fields[:keys] {
		n.Keys = append(n.Keys, f.Num)
	}
	for _, f := range fields[keys:] {
		n.Kids = append(n.Kids, int(f.Num))
	}
	return n
}
