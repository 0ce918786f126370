package thing

import (
	"bytes"
	"slices"
	"strings"

	"bailey/api"
	"bailey/codec"
)

// The shapes of what all things have, and of a category and a link.
const (
	headShape = "81b2"
	catShape  = "81"
	linkShape = "82"
)

// kindAt is where in an image its kind stands, behind the eight bytes of its ID.
const kindAt = 8

// The bytes of a category and of a link.
const (
	catSize  = 9
	linkSize = 10
)

// shapeOf: the shape of an image.
func shapeOf(kind int) string {
	switch kind {
	case api.Dir:
		return headShape + "2b"
	case api.Thread:
		return headShape + "b8888111"
	case api.Gate:
		return headShape + "b8"
	case api.Segment:
		return headShape + "b"
	case api.Space:
		return headShape + "88888888"
	}
	return headShape
}

// Image: a thing as bytes.
func Image(t api.Thing) ([]byte, api.Errno) {
	if !Right(t) {
		return nil, api.ErrThing
	}
	// It doesn't fail: whatever is Right has room in its shape.
	image, _ := codec.Pack(shapeOf(t.Kind), slices.Concat(headOf(t), partsOf(t))...)
	return image, api.OK
}

func number(n uint64) api.Field { return api.Field{Num: n} }

// count: a number that isn't below 0, as none of a thing that is Right is.
func count(n int) api.Field { return number(uint64(n)) }

func text(b []byte) api.Field { return api.Field{Bytes: b} }

// headOf: the fields of what all things have.
func headOf(t api.Thing) []api.Field {
	return []api.Field{number(t.ID), count(t.Kind), text(labelBytes(t.Label)), count(t.Quota)}
}

// partsOf: the fields of what its kind has besides.
func partsOf(t api.Thing) []api.Field {
	switch t.Kind {
	case api.Dir:
		return []api.Field{count(t.Next), text(linkBytes(t.Links))}
	case api.Thread:
		return []api.Field{
			text(labelBytes(t.Clear)), number(t.Regs[0]), number(t.Regs[1]), number(t.Regs[2]), number(t.Regs[3]),
			count(t.Minted), count(t.Boot), truth(t.Halted),
		}
	case api.Gate:
		return []api.Field{text(labelBytes(t.Clear)), number(t.Value)}
	case api.Segment:
		return []api.Field{text(t.Data)}
	case api.Space:
		var fields []api.Field
		for _, s := range t.Slots {
			fields = append(fields, number(s.Dir), number(s.Seg))
		}
		return fields
	}
	return nil
}

func truth(yes bool) api.Field {
	if yes {
		return number(1)
	}
	return number(0)
}

func labelBytes(l api.Label) []byte {
	fields := []api.Field{count(l.Def)}
	for _, c := range l.Cats {
		fields = append(fields, number(c.ID), count(c.Level))
	}
	b, _ := codec.Pack("1"+strings.Repeat(catShape, len(l.Cats)), fields...)
	return b
}

func linkBytes(links []api.Link) []byte {
	var fields []api.Field
	for _, l := range links {
		fields = append(fields, number(l.ID), count(l.Quota))
	}
	b, _ := codec.Pack(strings.Repeat(linkShape, len(links)), fields...)
	return b
}

// Read: the thing of bytes.
func Read(b []byte) (api.Thing, api.Errno) {
	t := guessed(b)
	// The guess is a loose one: it is the thing just if its own image is these bytes.
	if image, err := Image(t); err != api.OK || !bytes.Equal(image, b) {
		return api.Thing{}, api.ErrThing
	}
	return t, api.OK
}

// guessed: the only thing whose image the bytes may be. Where they can't be one, what it tells has another image, or none.
func guessed(b []byte) api.Thing {
	if len(b) <= kindAt {
		return api.Thing{}
	}
	kind := int(b[kindAt])
	fields, err := codec.Unpack(shapeOf(kind), b)
	if err != api.OK {
		return api.Thing{}
	}
	t := api.Thing{ID: fields[0].Num, Kind: kind, Label: labelOf(fields[2].Bytes), Quota: int(fields[3].Num)}
	setParts(&t, fields[len(headShape):])
	return t
}

// setParts sets what its kind has besides.
func setParts(t *api.Thing, fields []api.Field) {
	switch t.Kind {
	case api.Dir:
		t.Next, t.Links = int(fields[0].Num), linksOf(fields[1].Bytes)
	case api.Thread:
		t.Clear = labelOf(fields[0].Bytes)
		for i := range t.Regs {
			t.Regs[i] = fields[1+i].Num
		}
		t.Minted, t.Boot, t.Halted = int(fields[5].Num), int(fields[6].Num), fields[7].Num == 1
	case api.Gate:
		t.Clear, t.Value = labelOf(fields[0].Bytes), fields[1].Num
	case api.Segment:
		t.Data = fields[0].Bytes
	case api.Space:
		for i := range t.Slots {
			t.Slots[i] = api.Slot{Dir: fields[2*i].Num, Seg: fields[2*i+1].Num}
		}
	}
}

// labelOf: the label of its bytes; of bytes that are none's the zero one, which isn't Right.
func labelOf(b []byte) api.Label {
	fields, err := codec.Unpack("1"+strings.Repeat(catShape, len(b)/catSize), b)
	if err != api.OK {
		return api.Label{}
	}
	l := api.Label{Def: int(fields[0].Num)}
	for pair := range slices.Chunk(fields[1:], 2) {
		l.Cats = append(l.Cats, api.Cat{ID: pair[0].Num, Level: int(pair[1].Num)})
	}
	return l
}

// linksOf: the links of their bytes; of bytes that are none's no links, whose bytes are others.
func linksOf(b []byte) []api.Link {
	fields, _ := codec.Unpack(strings.Repeat(linkShape, len(b)/linkSize), b)
	var links []api.Link
	for pair := range slices.Chunk(fields, 2) {
		links = append(links, api.Link{ID: pair[0].Num, Quota: int(pair[1].Num)})
	}
	return links
}
