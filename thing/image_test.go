package thing

import (
	"bytes"
	"math/rand"
	"slices"
	"strconv"
	"strings"
	"testing"

	"bailey/api"
)

// reader takes bytes one behind the other; of too few it says so at the end.
type reader struct {
	rest []byte
	bad  bool
}

func (r *reader) take(n int) []byte {
	if n > len(r.rest) {
		r.rest, r.bad = nil, true
		return nil
	}
	taken := r.rest[:n]
	r.rest = r.rest[n:]
	return taken
}

func (r *reader) number(width int) uint64 {
	var n uint64
	for _, c := range r.take(width) {
		n = n*256 + uint64(c)
	}
	return n
}

func (r *reader) small(width int) int { return int(r.number(width)) }

// part: a reader of the counted bytes that are next.
func (r *reader) part() *reader { return &reader{rest: r.take(r.small(2))} }

// end: was all as it should be?
func (r *reader) end() bool { return !r.bad && len(r.rest) == 0 }

func (r *reader) label() (api.Label, bool) {
	p := r.part()
	l := api.Label{Def: p.small(1)}
	for len(p.rest) > 0 {
		l.Cats = append(l.Cats, api.Cat{ID: p.number(8), Level: p.small(1)})
	}
	return l, p.end()
}

// readByWords: P11.4, with a reader of the tests' own.
func readByWords(b []byte) (api.Thing, bool) {
	r := &reader{rest: b}
	x := api.Thing{ID: r.number(8), Kind: r.small(1)}
	var well bool
	x.Label, well = r.label()
	x.Quota = r.small(2)
	fine := true
	switch x.Kind {
	case 1:
		x.Next = r.small(2)
		p := r.part()
		for len(p.rest) > 0 {
			x.Links = append(x.Links, api.Link{ID: p.number(8), Quota: p.small(2)})
		}
		fine = p.end()
	case 2:
		x.Clear, fine = r.label()
		for i := range x.Regs {
			x.Regs[i] = r.number(8)
		}
		x.Minted, x.Boot = r.small(1), r.small(1)
		halted := r.number(1)
		x.Halted, fine = halted == 1, fine && halted < 2
	case 3:
		x.Clear, fine = r.label()
		x.Value = r.number(8)
	case 4:
		p := r.part()
		x.Data = p.rest
		fine = !p.bad
	case 5:
		for i := range x.Slots {
			x.Slots[i] = api.Slot{Dir: r.number(8), Seg: r.number(8)}
		}
	}
	if !well || !fine || !r.end() || broken(x) != "" {
		return api.Thing{}, false
	}
	return x, true
}

// wantRead holds Read of some bytes against the words, and tells whether they are a thing's.
func wantRead(t *testing.T, what string, b []byte) bool {
	t.Helper()
	got, err := Read(b)
	want, ok := readByWords(b)
	wantErr := api.OK
	if !ok {
		wantErr = api.ErrThing
	}
	if !alike(got, want) || err != wantErr {
		t.Errorf("%s: Read of %v tells %+v, %d, not %+v, %d", what, b, got, err, want, wantErr)
	}
	if ok && !bytes.Equal(imageByWords(got), b) {
		t.Errorf("%s: Read of %v tells %+v, whose image is another", what, b, got)
	}
	return ok
}

func wantNoRead(t *testing.T, what string, b []byte) {
	t.Helper()
	if wantRead(t, what, b) {
		t.Errorf("%s: %v are a thing's", what, b)
	}
}

// wantImage: a thing and its image, byte for byte, both ways.
func wantImage(t *testing.T, what string, x api.Thing, want ...[]byte) {
	t.Helper()
	image := slices.Concat(want...)
	b, err := Image(x)
	if err != api.OK || !bytes.Equal(b, image) {
		t.Errorf("%s: Image tells %v, %d, not %v", what, b, err, image)
	}
	y, err := Read(image)
	if err != api.OK || !alike(x, y) {
		t.Errorf("%s: Read tells %+v, %d, not %+v", what, y, err, x)
	}
	if !bytes.Equal(imageByWords(x), image) {
		t.Errorf("%s: by words %v, not %v", what, imageByWords(x), image)
	}
}

// P11.3, P11.4
func TestChapterExample(t *testing.T) {
	x := api.Thing{ID: 65, Kind: api.Device, Label: of(api.Plain), Quota: 1}
	wantImage(t, "the chapter's device", x, []byte{0, 0, 0, 0, 0, 0, 0, 65, 6, 0, 1, 2, 0, 1})
}

// P11.3, P11.4: the least of each kind.
func TestImageOfFewest(t *testing.T) {
	x := fewest()
	id, low, zeros := []byte{0, 0, 0, 0, 0, 0, 0, 1}, []byte{0, 1, 1}, make([]byte, 64)
	wantImage(t, "a directory", x[1], id, []byte{1}, low, []byte{0, 1}, []byte{0, 0}, []byte{0, 0})
	wantImage(t, "a thread", x[2], id, []byte{2}, low, []byte{0, 1}, low, zeros[:32], []byte{0, 0, 0})
	wantImage(t, "a gate", x[3], id, []byte{3}, low, []byte{0, 1}, low, zeros[:8])
	wantImage(t, "a segment", x[4], id, []byte{4}, low, []byte{0, 2}, []byte{0, 32}, zeros[:32])
	wantImage(t, "a space", x[5], id, []byte{5}, low, []byte{0, 1}, zeros[:64])
	wantImage(t, "a device", x[6], id, []byte{6}, low, []byte{0, 1})
}

// P11.3, P11.4: something of all, byte for byte.
func TestImageOfSome(t *testing.T) {
	x := between()
	plain := []byte{0, 10, 2, 0, 0, 0, 0, 0, 0, 0, 7, 4}
	owned := []byte{0, 19, 2, 0, 0, 0, 0, 0, 0, 0, 7, 0, 0, 0, 0, 0, 0, 0, 0, 9, 4}
	id := func(n byte) []byte { return []byte{0, 0, 0, 0, 0, 0, 0, n} }
	wantImage(t, "a directory", x[1], id(66), []byte{1}, plain, []byte{0, 9}, []byte{0, 3},
		[]byte{0, 20, 0, 0, 0, 0, 0, 0, 16, 129, 0, 1, 0, 0, 0, 0, 0, 0, 16, 130, 0, 4})
	wantImage(t, "a thread", x[2], id(67), []byte{2}, owned, []byte{0, 1}, plain, id(1), id(2), id(3), id(4), []byte{2, 7, 1})
	wantImage(t, "a gate", x[3], id(68), []byte{3}, owned, []byte{0, 1}, plain, id(8))
	wantImage(t, "a segment", x[4], id(69), []byte{4}, plain, []byte{0, 3}, []byte{0, 64}, []byte(strings.Repeat("bailey", 11))[:64])
	wantImage(t, "a space", x[5], id(70), []byte{5}, plain, []byte{0, 1}, make([]byte, 16), id(1), id(69), make([]byte, 32))
	wantImage(t, "a device", x[6], id(65), []byte{6}, plain, []byte{0, 1})
}

// P11.3, P11.4: the most of each kind.
func TestImageOfMost(t *testing.T) {
	x := most()
	last, lastPair := []byte{0, 0, 255, 255, 255, 255, 255, 255}, slices.Repeat([]byte{0, 0, 255, 255, 255, 255, 255, 255}, 2)
	label := func(levels ...byte) []byte {
		return []byte{0, 55, 4,
			0, 0, 0, 0, 0, 0, 0, 1, levels[0], 0, 0, 0, 0, 0, 0, 0, 2, levels[1],
			0, 0, 0, 1, 0, 0, 0, 0, levels[2], 16, 0, 0, 0, 0, 0, 0, 0, levels[3],
			31, 255, 255, 255, 255, 255, 255, 254, levels[4], 31, 255, 255, 255, 255, 255, 255, 255, levels[5]}
	}
	pure, owning := label(1, 2, 3, 1, 2, 3), label(0, 2, 3, 1, 0, 0)
	links := []byte{0, 63, 0, 160}
	for _, id := range []int{1, 2, 9, 28, 65, 126, 217, 344, 513, 730, 1001, 1332, 1729, 2198, 2745} {
		links = append(links, 0, 0, 0, 0, 0, 0, byte(id/256), byte(id%256), 0, 2)
	}
	wantImage(t, "a directory", x[1], last, []byte{1}, pure, []byte{0, 48}, links, last, []byte{0, 17})
	wantImage(t, "a thread", x[2], last, []byte{2}, owning, []byte{0, 1}, pure,
		[]byte{127, 248, 0, 0, 0, 0, 0, 1, 255, 240, 0, 0, 0, 0, 0, 0, 127, 239, 255, 255, 255, 255, 255, 255, 128, 0, 0, 0, 0, 0, 0, 0},
		[]byte{31, 255, 1})
	wantImage(t, "a gate", x[3], last, []byte{3}, owning, []byte{0, 1}, pure, []byte{127, 248, 0, 0, 0, 0, 0, 1})
	var data []byte
	for i := range 128 {
		data = append(data, byte(255-i))
	}
	wantImage(t, "a segment", x[4], last, []byte{4}, pure, []byte{0, 5, 0, 128}, data)
	one := []byte{0, 0, 0, 0, 0, 0, 0, 1}
	wantImage(t, "a space", x[5], last, []byte{5}, pure, []byte{0, 1}, lastPair, one, last, last, one,
		[]byte{0, 0, 0, 1, 2, 3, 4, 5, 0, 0, 6, 7, 8, 9, 10, 11})
	wantImage(t, "a device", x[6], last, []byte{6}, pure, []byte{0, 1})
}

// P11.3: the longest image there is, of a directory with all that it may have.
func TestLongestImage(t *testing.T) {
	longest := 0
	for kind, x := range most() {
		b, err := Image(x)
		if want := []int{0, 232, 160, 133, 198, 132, 68}[kind]; err != api.OK || len(b) != want {
			t.Errorf("the kind %d: %d bytes, %d, not %d", kind, len(b), err, want)
		}
		longest = max(longest, len(b))
	}
	if longest > api.MaxImage {
		t.Errorf("an image of %d bytes", longest)
	}
}

// P11.3: a thing that isn't Right has no image; its error comes with no bytes.
func TestImageOfWrong(t *testing.T) {
	for i, x := range samples() {
		for what, change := range map[string]func(x *api.Thing){
			"the ID 0":              func(x *api.Thing) { x.ID = 0 },
			"the ID 2^48":           func(x *api.Thing) { x.ID = 1 << 48 },
			"the kind 0":            func(x *api.Thing) { x.Kind = 0 },
			"the kind below 0":      func(x *api.Thing) { x.Kind -= 256 },
			"the kind of 256 more":  func(x *api.Thing) { x.Kind += 256 },
			"a label of seven":      func(x *api.Thing) { x.Label = of(4, seven...) },
			"a label of Def 0":      func(x *api.Thing) { x.Label.Def = 0 },
			"a label of 256 more":   func(x *api.Thing) { x.Label.Def += 256 },
			"the Quota 0":           func(x *api.Thing) { x.Quota = 0 },
			"the Quota of 2^16":     func(x *api.Thing) { x.Quota += 1 << 16 },
			"the Quota goes round":  func(x *api.Thing) { x.Quota -= 1 << 16 },
			"Next below 0":          func(x *api.Thing) { x.Next = -1 },
			"Minted of 256 more":    func(x *api.Thing) { x.Minted += 256 },
			"Boot of 256 more":      func(x *api.Thing) { x.Boot += 256 },
			"too many links":        func(x *api.Thing) { x.Links = make([]api.Link, 200) },
			"Data of more than all": func(x *api.Thing) { x.Data = make([]byte, api.MaxText+1) },
		} {
			y := with(x, change)
			if b, err := Image(y); err != api.ErrThing || len(b) != 0 {
				t.Errorf("sample %d with %s: Image tells %v, %d", i, what, b, err)
			}
		}
	}
	if b, err := Image(api.Thing{}); err != api.ErrThing || len(b) != 0 {
		t.Errorf("the zero thing: Image tells %v, %d", b, err)
	}
}

// P11.4
func TestReadOfCutOff(t *testing.T) {
	for i, x := range samples() {
		image := imageByWords(x)
		for n := range image {
			wantNoRead(t, "sample "+strconv.Itoa(i)+", cut off", image[:n])
			wantNoRead(t, "sample "+strconv.Itoa(i)+", cut off ahead", image[n+1:])
		}
	}
	wantNoRead(t, "nothing", nil)
	wantNoRead(t, "no bytes", []byte{})
}

// P11.4
func TestReadOfMore(t *testing.T) {
	for i, x := range samples() {
		image := imageByWords(x)
		for c := range 256 {
			wantNoRead(t, "sample "+strconv.Itoa(i)+", one more", append(slices.Clone(image), byte(c)))
		}
		wantNoRead(t, "sample "+strconv.Itoa(i)+", zeros behind", append(slices.Clone(image), make([]byte, 128)...))
		wantNoRead(t, "sample "+strconv.Itoa(i)+", twice", slices.Concat(image, image))
		for at := range image {
			for _, c := range []byte{0, 1, image[at]} {
				wantNoRead(t, "sample "+strconv.Itoa(i)+", one more between", slices.Insert(slices.Clone(image), at, c))
			}
			if at > 0 {
				wantNoRead(t, "sample "+strconv.Itoa(i)+", one less between", slices.Delete(slices.Clone(image), at-1, at))
			}
		}
	}
}

// P11.4: each byte of each image, turned to each other one.
func TestReadOfTurned(t *testing.T) {
	read, not := 0, 0
	for i, x := range samples() {
		image := imageByWords(x)
		for at, was := range image {
			for c := range 256 {
				if byte(c) == was {
					continue
				}
				image[at] = byte(c)
				if wantRead(t, "sample "+strconv.Itoa(i)+", turned at "+strconv.Itoa(at), image) {
					read++
				} else {
					not++
				}
			}
			image[at] = was
		}
	}
	if read < 100000 || not < 100000 {
		t.Errorf("%d of them are a thing's, %d aren't", read, not)
	}
}

// P11.4: bytes of the form of an image, of what isn't Right, or that is written otherwise.
func TestReadOfWrong(t *testing.T) {
	for i, x := range samples() {
		for what, change := range map[string]func(x *api.Thing){
			"the ID 0":           func(x *api.Thing) { x.ID = 0 },
			"the ID 2^48":        func(x *api.Thing) { x.ID = 1 << 48 },
			"the greatest ID":    func(x *api.Thing) { x.ID = greatest },
			"a label of seven":   func(x *api.Thing) { x.Label = of(4, seven...) },
			"a label of 120":     func(x *api.Thing) { x.Label.Cats = make([]api.Cat, 120) },
			"a label of Def 0":   func(x *api.Thing) { x.Label.Def = 0 },
			"a label of Def 5":   func(x *api.Thing) { x.Label = of(5) },
			"a level 5":          func(x *api.Thing) { x.Label = of(2, cat(7, 5)) },
			"the level Def":      func(x *api.Thing) { x.Label = of(2, cat(7, 2)) },
			"out of order":       func(x *api.Thing) { x.Label = of(2, cat(7, 3), cat(6, 3)) },
			"the Quota 0":        func(x *api.Thing) { x.Quota = 0 },
			"the Quota 49":       func(x *api.Thing) { x.Quota = 49 },
			"the Quota 2^16 - 1": func(x *api.Thing) { x.Quota = 1<<16 - 1 },
		} {
			wantNoRead(t, "sample "+strconv.Itoa(i)+" with "+what, imageByWords(with(x, change)))
		}
	}
	for kind := range 256 {
		b := imageByWords(fewest()[6])
		b[8] = byte(kind)
		if wantRead(t, "a device's, of another kind", b) != (kind == 6) {
			t.Errorf("a device's, of the kind %d", kind)
		}
	}
	for halted := range 256 {
		b := imageByWords(most()[2])
		b[len(b)-1] = byte(halted)
		if wantRead(t, "a thread's, Halted otherwise", b) != (halted < 2) {
			t.Errorf("a thread's, Halted %d", halted)
		}
	}
}

// P11.4: counts that don't fit what they count.
func TestReadOfWrongCounts(t *testing.T) {
	id := []byte{0, 0, 0, 0, 0, 0, 0, 9}
	for n := range 260 {
		label := counted(append([]byte{2}, make([]byte, n)...))
		wantNoRead2(t, n == 0, "a label's count", slices.Concat(id, []byte{6}, label, []byte{0, 1}))
		clear := slices.Concat(id, []byte{3, 0, 1, 2, 0, 1}, label, make([]byte, 8))
		wantNoRead2(t, n == 0, "a clearance's count", clear)
		links := counted(make([]byte, n))
		wantNoRead2(t, n == 0, "a directory's count", slices.Concat(id, []byte{1, 0, 1, 2, 0, 40, 0, 0}, links))
		one := counted(append([]byte{0, 0, 0, 0, 0, 0, 0, 5, 0, 1}, make([]byte, n)...))
		wantNoRead2(t, n == 0, "a directory's count", slices.Concat(id, []byte{1, 0, 1, 2, 0, 40, 0, 0}, one))
		data := slices.Concat(id, []byte{4, 0, 1, 2, 0, byte(1 + n/32)}, counted(make([]byte, n)))
		wantNoRead2(t, n > 0 && n <= 128 && n%32 == 0, "a segment's count", data)
	}
	for _, n := range []int{api.MaxText - 1, api.MaxText, api.MaxText + 1, 1<<16 - 1} {
		wantNoRead(t, "a long label", slices.Concat(id, []byte{6}, counted(make([]byte, n)), []byte{0, 1}))
		wantNoRead(t, "many links", slices.Concat(id, []byte{1, 0, 1, 2, 0, 40, 0, 0}, counted(make([]byte, n))))
		wantNoRead(t, "much data", slices.Concat(id, []byte{4, 0, 1, 2, 0, 40}, counted(make([]byte, n))))
	}
	wantNoRead(t, "a label of no bytes", slices.Concat(id, []byte{6, 0, 0, 0, 1}))
	wantNoRead(t, "a clearance of no bytes", slices.Concat(id, []byte{3, 0, 1, 2, 0, 1, 0, 0}, make([]byte, 8)))
}

// wantNoRead2 holds Read against the words, and the words against what is known.
func wantNoRead2(t *testing.T, is bool, what string, b []byte) {
	t.Helper()
	if wantRead(t, what, b) != is {
		t.Errorf("%s: %v, not %v: %v", what, !is, is, b)
	}
}

// P11.4: bytes of any length, drawn.
func TestReadOfDrawnBytes(t *testing.T) {
	r := rand.New(rand.NewSource(114))
	for range 20000 {
		b := make([]byte, r.Intn(300))
		r.Read(b)
		wantRead(t, "drawn bytes", b)
		for i := range b { // of small numbers more is well
			b[i] %= 4
		}
		wantRead(t, "drawn small bytes", b)
	}
}

// P11.3, P11.4: images of things of any form, a few bytes of which are drawn.
func TestReadOfDrawnImages(t *testing.T) {
	r := rand.New(rand.NewSource(11))
	read := 0
	for range 40000 {
		b := imageByWords(drawnThing(r))
		for range r.Intn(3) {
			b[r.Intn(len(b))] = pick(r, 0, 1, 2, 255, byte(r.Intn(256)))
		}
		if wantRead(t, "a drawn image", b) {
			read++
		}
		if t.Failed() {
			break
		}
	}
	if read < 4000 || read > 36000 {
		t.Errorf("%d of them are a thing's", read)
	}
}

// P11.3, P11.4: no two things that aren't Same have one image, and each image is read as its thing.
func TestImagesAtRandom(t *testing.T) {
	r := rand.New(rand.NewSource(113))
	seen := map[string]api.Thing{}
	for range 30000 {
		x := drawnThing(r)
		b, err := Image(x)
		if err != api.OK {
			continue
		}
		if len(b) > api.MaxImage {
			t.Errorf("an image of %d bytes: %+v", len(b), x)
		}
		if y, err := Read(b); err != api.OK || !alike(x, y) {
			t.Errorf("Read of the image of %+v tells %+v, %d", x, y, err)
		}
		if y, ok := seen[string(b)]; ok && !alike(x, y) {
			t.Errorf("%+v and %+v have one image", x, y)
		}
		seen[string(b)] = x
	}
	if len(seen) < 500 {
		t.Errorf("%d images", len(seen))
	}
}
