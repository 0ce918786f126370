package codec

import (
	"bytes"
	"math"
	"math/rand"
	"slices"
	"strings"
	"testing"

	"bailey/api"
)

const letters = "1248b"

func number(n uint64) api.Field { return api.Field{Num: n} }

func text(s string) api.Field { return api.Field{Bytes: []byte(s)} }

func textOf(n int) api.Field { return text(strings.Repeat("t", n)) }

// greatest: the greatest number of so many bytes, told by a table of its own.
func greatest(letter byte) uint64 {
	return map[byte]uint64{'1': 0xFF, '2': 0xFFFF, '4': 0xFFFFFFFF, '8': math.MaxUint64}[letter]
}

func sameField(a, b api.Field) bool { return a.Num == b.Num && bytes.Equal(a.Bytes, b.Bytes) }

func wantPack(t *testing.T, want []byte, shape string, fields ...api.Field) {
	t.Helper()
	b, err := Pack(shape, fields...)
	if err != api.OK || !bytes.Equal(b, want) {
		t.Errorf("Pack(%.20q, %.100v) = %.100v, %d, not %.100v", shape, fields, b, err, want)
	}
}

func wantNoPack(t *testing.T, shape string, fields ...api.Field) {
	t.Helper()
	b, err := Pack(shape, fields...)
	if err != api.ErrCodec || len(b) != 0 {
		t.Errorf("Pack(%.20q, %d fields) = %d bytes, %d", shape, len(fields), len(b), err)
	}
}

func wantUnpack(t *testing.T, want []api.Field, shape string, b []byte) {
	t.Helper()
	l, err := Unpack(shape, b)
	if err != api.OK || !slices.EqualFunc(l, want, sameField) {
		t.Errorf("Unpack(%.20q, %.100v) = %.100v, %d, not %.100v", shape, b, l, err, want)
	}
}

func wantNoUnpack(t *testing.T, shape string, b []byte) {
	t.Helper()
	l, err := Unpack(shape, b)
	if err != api.ErrCodec || len(l) != 0 {
		t.Errorf("Unpack(%.20q, %.60v) = %d fields, %d", shape, b, len(l), err)
	}
}

// wantBoth: the fields pack to the bytes, and the bytes unpack to the fields.
func wantBoth(t *testing.T, want []byte, shape string, fields ...api.Field) {
	t.Helper()
	wantPack(t, want, shape, fields...)
	wantUnpack(t, fields, shape, want)
}

// someShape, someFields: from a fixed beginning, at the edges as often as between them.
func someShape(r *rand.Rand, most int) string {
	b := make([]byte, r.Intn(most+1))
	for i := range b {
		b[i] = letters[r.Intn(len(letters))]
	}
	return string(b)
}

func someFields(r *rand.Rand, shape string) []api.Field {
	var l []api.Field
	for i := range len(shape) {
		if shape[i] == 'b' {
			b := make([]byte, []int{0, 1, r.Intn(300), r.Intn(api.MaxText + 1), api.MaxText}[r.Intn(5)])
			r.Read(b)
			l = append(l, api.Field{Bytes: b})
			continue
		}
		top := greatest(shape[i])
		l = append(l, number([]uint64{0, 1, top, r.Uint64() & top}[r.Intn(4)]))
	}
	return l
}

func TestExample(t *testing.T) { // P2.1, P2.2
	wantBoth(t, []byte{7, 0, 2, 'x', 'y'}, "1b", number(7), text("xy"))
}

func TestHighestByteFirst(t *testing.T) { // P2.1, P2.2
	wantBoth(t, []byte{0x12}, "1", number(0x12))
	wantBoth(t, []byte{0x12, 0x34}, "2", number(0x1234))
	wantBoth(t, []byte{0x12, 0x34, 0x56, 0x78}, "4", number(0x12345678))
	wantBoth(t, []byte{0x12, 0x34, 0x56, 0x78, 0x9A, 0xBC, 0xDE, 0xF0}, "8", number(0x123456789ABCDEF0))
	wantBoth(t, []byte{0, 0, 0, 1}, "4", number(1))
	wantBoth(t, []byte{1, 0, 0, 0, 0, 0, 0, 0}, "8", number(1<<56))
}

func TestOneBehindTheOther(t *testing.T) { // P2.1, P2.2
	wantBoth(t, []byte{1, 0, 2, 0, 0, 0, 3, 0, 0, 0, 0, 0, 0, 0, 4, 0, 1, 5, 0, 0, 0, 3, 6, 7, 8},
		"1248bbb", number(1), number(2), number(3), number(4), text("\x05"), text(""), text("\x06\x07\x08"))
	wantBoth(t, []byte{0, 1, 'p', 9, 0, 1, 'q', 0, 8}, "b1b2", text("p"), number(9), text("q"), number(8))
}

func TestNumbersAtTheirEdges(t *testing.T) { // P2.1, P2.2
	for _, c := range "1248" {
		shape, width, top := string(c), int(c-'0'), greatest(byte(c))
		wantBoth(t, make([]byte, width), shape, number(0))
		wantBoth(t, bytes.Repeat([]byte{0xFF}, width), shape, number(top))
		wantBoth(t, append(bytes.Repeat([]byte{0xFF}, width-1), 0xFE), shape, number(top-1))
		if top == math.MaxUint64 {
			continue
		}
		for _, n := range []uint64{top + 1, top + 2, 2 * (top + 1), 1 << 63, math.MaxUint64} {
			wantNoPack(t, shape, number(n))
			wantNoPack(t, "8"+shape+"b", number(1), number(n), text("x"))
		}
	}
}

func TestNumbersOfEachBit(t *testing.T) { // P2.1, P2.2
	for _, c := range "1248" {
		shape, width := string(c), int(c-'0')
		for bit := range 64 {
			n := uint64(1) << bit
			if bit >= 8*width {
				wantNoPack(t, shape, number(n))
				continue
			}
			want := make([]byte, width)
			want[width-1-bit/8] = 1 << (bit % 8)
			wantBoth(t, want, shape, number(n))
		}
	}
}

func TestBytesAtTheirEdges(t *testing.T) { // P2.1, P2.2
	for _, n := range []int{0, 1, 2, 255, 256, 257, api.MaxText - 1, api.MaxText} {
		f := textOf(n)
		wantBoth(t, append([]byte{byte(n >> 8), byte(n)}, f.Bytes...), "b", f)
	}
	for _, n := range []int{api.MaxText + 1, api.MaxText + 2, 2 * api.MaxText, 1<<16 - 1, 1 << 16, 1<<16 + 1, 1 << 20} {
		wantNoPack(t, "b", textOf(n))
		wantNoPack(t, "1b1", number(1), textOf(n), number(2))
	}
	wantPack(t, []byte{0, 0}, "b", api.Field{})
	wantPack(t, []byte{0, 0}, "b", api.Field{Bytes: []byte{}})
}

func TestBytesOfMoreThanMaxTextAreNoPack(t *testing.T) { // P2.2: though as many bytes follow as are told
	for _, n := range []int{api.MaxText + 1, api.MaxText + 255, 2 * api.MaxText, 1<<16 - 1} {
		wantNoUnpack(t, "b", append([]byte{byte(n >> 8), byte(n)}, make([]byte, n)...))
	}
}

func TestAllOfMaxText(t *testing.T) { // P2.1, P2.2: the longest text that can be packed
	shape := strings.Repeat("b", 200)
	l := slices.Repeat([]api.Field{textOf(api.MaxText)}, 200)
	one := append([]byte{4, 0}, l[0].Bytes...)
	wantBoth(t, bytes.Repeat(one, 200), shape, l...)
	l[199] = textOf(api.MaxText + 1)
	wantNoPack(t, shape, l...)
}

func TestOtherLetters(t *testing.T) { // P2.1, P2.2
	var wrong []string
	for c := range 256 {
		if s := string([]byte{byte(c)}); !strings.Contains(letters, s) {
			wrong = append(wrong, s)
		}
	}
	wrong = append(wrong, "é", "１", "\u0131", "\U00010062", "10", "16")
	for _, s := range wrong {
		for _, shape := range []string{s, "1" + s, s + "1", "1" + s + "1"} {
			for n := range 5 {
				wantNoPack(t, shape, make([]api.Field, n)...)
			}
			for n := range 20 {
				wantNoUnpack(t, shape, make([]byte, n))
			}
		}
	}
}

func TestShapesOfNoneOrManyLetters(t *testing.T) { // P2.1, P2.2
	wantBoth(t, nil, "")
	wantUnpack(t, nil, "", []byte{})
	wantNoPack(t, "", number(0))
	wantNoUnpack(t, "", []byte{0})
	for _, c := range letters {
		f, one := number(3), []byte{0, 0, 0, 0, 0, 0, 0, 3}
		if c == 'b' {
			f, one = text("xy"), []byte{0, 2, 'x', 'y'}
		} else {
			one = one[8-int(c-'0'):]
		}
		for _, n := range []int{1, 2, 199, 200} {
			wantBoth(t, bytes.Repeat(one, n), strings.Repeat(string(c), n), slices.Repeat([]api.Field{f}, n)...)
		}
		for _, n := range []int{201, 202, 255, 256, 257, 456, 100000} {
			shape := strings.Repeat(string(c), n)
			wantNoPack(t, shape, slices.Repeat([]api.Field{f}, n)...)
			wantNoPack(t, shape, slices.Repeat([]api.Field{f}, 200)...)
			wantNoPack(t, shape)
			wantNoUnpack(t, shape, bytes.Repeat(one, n))
			wantNoUnpack(t, shape, bytes.Repeat(one, 200))
			wantNoUnpack(t, shape, nil)
		}
	}
}

func TestMoreOrFewerFields(t *testing.T) { // P2.1
	shape := "1248b"
	l := []api.Field{number(1), number(2), number(3), number(4), text("x"), number(0), text(""), number(0)}
	for n := range len(l) + 1 {
		if n != len(shape) {
			wantNoPack(t, shape, l[:n]...)
		}
	}
	wantNoPack(t, shape, make([]api.Field, 100000)...)
	wantNoPack(t, strings.Repeat("1", 200), make([]api.Field, 199)...)
	wantNoPack(t, strings.Repeat("1", 200), make([]api.Field, 201)...)
}

func TestWhatALetterDoesNotHave(t *testing.T) { // P2.1: of a number its Num alone, of a b its Bytes alone
	both := api.Field{Num: math.MaxUint64, Bytes: []byte("xy")}
	wantPack(t, []byte{0, 2, 'x', 'y'}, "b", both)
	for _, c := range "1248" {
		f := api.Field{Num: greatest(byte(c)), Bytes: make([]byte, api.MaxText+1)}
		wantPack(t, bytes.Repeat([]byte{0xFF}, int(c-'0')), string(c), f)
	}
}

func TestUnpackedFieldsHaveNothingElse(t *testing.T) { // P2.2
	l, err := Unpack("1b2b48", []byte{1, 0, 1, 'x', 0, 2, 0, 0, 0, 0, 0, 3, 0, 0, 0, 0, 0, 0, 0, 4})
	if err != api.OK || len(l) != 6 {
		t.Fatal(l, err)
	}
	for i, c := range "1b2b48" {
		if c == 'b' && l[i].Num != 0 || c != 'b' && len(l[i].Bytes) != 0 {
			t.Errorf("field %d of letter %c: %v", i, c, l[i])
		}
	}
}

func TestCutOffOrMoreBehind(t *testing.T) { // P2.2
	r := rand.New(rand.NewSource(2))
	shapes := []string{"1", "2", "4", "8", "b", "bb", "1b", "b1", "1248b", "b8421", "8b8b8"}
	for range 40 {
		shapes = append(shapes, "1"+someShape(r, 5))
	}
	for _, shape := range shapes {
		b, err := Pack(shape, someFields(r, shape)...)
		if err != api.OK {
			t.Fatal(shape, err)
		}
		for n := range len(b) {
			wantNoUnpack(t, shape, b[:n])
		}
		for c := range 256 {
			wantNoUnpack(t, shape, append(slices.Clone(b), byte(c)))
		}
		wantNoUnpack(t, shape, append(slices.Clone(b), b...))
	}
}

func TestBytesThatTellMoreOrFewer(t *testing.T) { // P2.2
	for told := range 8 {
		for have := range 8 {
			b := append([]byte{0, byte(told)}, make([]byte, have)...)
			if told == have {
				wantUnpack(t, []api.Field{{Bytes: make([]byte, have)}}, "b", b)
			} else {
				wantNoUnpack(t, "b", b)
			}
		}
	}
	wantNoUnpack(t, "b", []byte{0xFF, 0xFF, 'x'})
	wantNoUnpack(t, "b", []byte{4, 0, 'x'})
}

func TestThereAndBack(t *testing.T) { // P2.1, P2.2
	r := rand.New(rand.NewSource(1))
	for i := range 3000 {
		shape := someShape(r, []int{200, 10, 3}[min(2, i%40)])
		l := someFields(r, shape)
		b, err := Pack(shape, l...)
		if err != api.OK {
			t.Fatalf("Pack(%q) answers %d", shape, err)
		}
		wantUnpack(t, l, shape, b)
	}
}

// allOver: all lists of at most so many of some.
func allOver[T any](some []T, most int) [][]T {
	all := [][]T{nil}
	for from := 0; most > 0; most-- {
		until := len(all)
		for _, l := range all[from:until] {
			for _, x := range some {
				all = append(all, append(slices.Clone(l), x))
			}
		}
		from = until
	}
	return all
}

func TestUnpackJustWhatIsAPack(t *testing.T) { // P2.2: short bytes of a few values, after all short shapes (no 8 fits into five bytes)
	packs := map[string]map[string]bool{}
	values := []byte{0, 1, 2, 4}
	texts := allOver(values, 3)
	var put func(shape, packed string)
	put = func(shape, packed string) { // what the document's words lay, without Pack
		if len(packed) > 5 {
			return
		}
		if packs[shape] == nil {
			packs[shape] = map[string]bool{}
		}
		packs[shape][packed] = true
		if len(shape) == 3 {
			return
		}
		for width, letter := range map[int]string{1: "1", 2: "2", 4: "4"} {
			for _, n := range allOver(values, width) {
				if len(n) == width {
					put(shape+letter, packed+string(n))
				}
			}
		}
		for _, b := range texts {
			put(shape+"b", packed+string([]byte{0, byte(len(b))})+string(b))
		}
	}
	put("", "")
	for _, s := range allOver([]byte(letters), 3) {
		shape := string(s)
		for _, b := range allOver(values, 5) {
			l, err := Unpack(shape, b)
			if (err == api.OK) != packs[shape][string(b)] {
				t.Fatalf("Unpack(%q, %v) answers %d", shape, b, err)
			}
			if err == api.OK {
				wantPack(t, b, shape, l...)
			} else if err != api.ErrCodec || len(l) != 0 {
				t.Fatalf("Unpack(%q, %v) = %v, %d", shape, b, l, err)
			}
		}
	}
}

// roomy: bytes with known spare room behind them, which all shows.
func roomy(s string) []byte { return slices.Clip([]byte(s + "spare room"))[:len(s)] }

func all(b []byte) []byte { return b[:cap(b)] }

func fill(b []byte, c byte) {
	for i := range all(b) {
		all(b)[i] = c
	}
}

func TestPackLeavesWhatItIsGiven(t *testing.T) {
	for _, last := range []uint64{5, 256} { // packed, and refused behind the others
		x, y := roomy("xx"), roomy("yyy")
		l := []api.Field{{Num: 9, Bytes: x}, {Num: 8, Bytes: y}, {Num: last}, {Num: 77}, {Bytes: x}}[:3]
		Pack("bb1", l...)
		if string(all(x)) != "xxspare room" || string(all(y)) != "yyyspare room" {
			t.Errorf("bytes were written over: %q, %q", all(x), all(y))
		}
		for i, n := range []uint64{9, 8, last, 77, 0} {
			if l[:5][i].Num != n {
				t.Errorf("field %d was written over: %v", i, l[:5][i])
			}
		}
		if &l[0].Bytes[0] != &x[0] || &l[1].Bytes[0] != &y[0] || l[2].Bytes != nil || l[:5][3].Bytes != nil || &l[:5][4].Bytes[0] != &x[0] {
			t.Error("a field's bytes were laid elsewhere")
		}
	}
}

func TestPackSharesNothing(t *testing.T) {
	for _, shape := range []string{"b", "bb", "1b", "b1"} {
		x := roomy("xyz")
		l := make([]api.Field, len(shape), len(shape)+3)
		for i := range l {
			l[i] = api.Field{Num: 7, Bytes: x}
		}
		b, _ := Pack(shape, l...)
		again, _ := Pack(shape, l...)
		was := slices.Clone(b)
		fill(x, '!')
		clear(l[:cap(l)])
		fill(again, '?')
		if !bytes.Equal(b, was) || bytes.ContainsAny(all(b), "!?") {
			t.Errorf("shape %q: the answer changed with what was handed in: %q", shape, all(b))
		}
		fill(b, '#')
		if bytes.ContainsAny(all(x), "#?") || bytes.Contains(all(again), []byte("#")) {
			t.Errorf("shape %q: what was handed in changed with the answer", shape)
		}
	}
}

func TestUnpackLeavesWhatItIsGiven(t *testing.T) {
	for _, shape := range []string{"b1b", "b1b1", "b1", "b1x", "bbb"} { // read, and refused at some place
		b := roomy("\x00\x02xx\x07\x00\x01y")
		was := string(all(b))
		l, _ := Unpack(shape, b)
		for _, f := range l {
			fill(f.Bytes, '!')
		}
		if string(all(b)) != was {
			t.Errorf("shape %q: the bytes were written over: %q", shape, all(b))
		}
	}
}

func TestUnpackSharesNothing(t *testing.T) {
	b := roomy("\x00\x02xx\x00\x03yyy\x00\x00\x00\x01z")
	l, err := Unpack("bbbb", b)
	again, _ := Unpack("bbbb", b)
	if err != api.OK || len(l) != 4 || len(again) != 4 {
		t.Fatal(l, again, err)
	}
	fill(b, '!')
	for _, f := range again {
		fill(f.Bytes, '?')
	}
	clear(again[:cap(again)])
	for i, want := range []string{"xx", "yyy", "", "z"} {
		if string(l[i].Bytes) != want || bytes.ContainsAny(all(l[i].Bytes), "!?") {
			t.Errorf("field %d: %q", i, all(l[i].Bytes))
		}
	}
	for i := range l { // each field's bytes, spare room too, are its own
		fill(l[i].Bytes, byte('A'+i))
	}
	for i := range l {
		if n := bytes.Count(all(l[i].Bytes), []byte{byte('A' + i)}); n != cap(l[i].Bytes) {
			t.Errorf("field %d shares its bytes: %q", i, all(l[i].Bytes))
		}
	}
	if n := bytes.Count(all(b), []byte("!")); n != cap(b) {
		t.Error("what was handed in changed with the answer")
	}
}

func TestSameAnswerAgain(t *testing.T) { // P1, P2: whatever was asked between, and at any arguments
	r := rand.New(rand.NewSource(3))
	for range 4000 {
		shape := make([]byte, r.Intn(6))
		for i := range shape {
			shape[i] = "11248bbb3\x00"[r.Intn(10)]
		}
		b := make([]byte, r.Intn(12))
		for i := range b {
			b[i] = []byte{0, 0, 0, 1, 2, 3, 4, 255}[r.Intn(8)]
		}
		l := make([]api.Field, r.Intn(6))
		for i := range l {
			l[i] = api.Field{Num: r.Uint64() >> r.Intn(65), Bytes: make([]byte, r.Intn(1100))}
		}
		packed, packErr := Pack(string(shape), l...)
		fields, unpackErr := Unpack(string(shape), b)
		Pack("3", number(1))
		Unpack("b", []byte{9})
		packed2, packErr2 := Pack(string(shape), l...)
		fields2, unpackErr2 := Unpack(string(shape), b)
		if packErr != packErr2 || !bytes.Equal(packed, packed2) {
			t.Fatalf("Pack(%q) answered otherwise", shape)
		}
		if unpackErr != unpackErr2 || !slices.EqualFunc(fields, fields2, sameField) {
			t.Fatalf("Unpack(%q, %v) answered otherwise", shape, b)
		}
		if packErr != api.OK && (packErr != api.ErrCodec || len(packed) != 0) {
			t.Fatalf("Pack(%q) = %v, %d", shape, packed, packErr)
		}
		if unpackErr != api.OK && (unpackErr != api.ErrCodec || len(fields) != 0) {
			t.Fatalf("Unpack(%q, %v) = %v, %d", shape, b, fields, unpackErr)
		}
	}
}
