package crc

import (
	"bytes"
	"hash/crc32"
	"math"
	"math/rand"
	"slices"
	"testing"
)

const example = "123456789"

const exampleSum = uint32(0xCBF43926)

// bits of a sum, the lowest first: the chapter's words are gone through on them, bit by bit.
type bits [32]bool

func bitsOf(n uint32) bits {
	var b bits
	for i := range b {
		b[i] = (n>>i)&1 == 1
	}
	return b
}

func (b bits) number() uint32 {
	n := uint32(0)
	for i := range b {
		if b[i] {
			n += 1 << i
		}
	}
	return n
}

func (b bits) with(o bits) bits {
	for i := range b {
		b[i] = b[i] != o[i]
	}
	return b
}

func (b bits) movedRight() bits {
	var r bits
	copy(r[:], b[1:])
	return r
}

// byWords: Add, as the chapter's words say it.
func byWords(sum uint32, text []byte) uint32 {
	all := bitsOf(math.MaxUint32)
	b := bitsOf(sum).with(all)
	for _, c := range text {
		b = b.with(bitsOf(uint32(c)))
		for i := 0; i < 8; i++ {
			left := b[0]
			b = b.movedRight()
			if left {
				b = b.with(bitsOf(0xEDB88320))
			}
		}
	}
	return b.with(all).number()
}

// someSums: of several kinds, each bit alone and each bit missing among them.
func someSums() []uint32 {
	l := []uint32{0, 1, math.MaxUint32, 1 << 31, math.MaxInt32, 0xFF, ^uint32(0xFF), 0xEDB88320, ^uint32(0xEDB88320), 0x55555555, 0xAAAAAAAA, exampleSum}
	for i := range 32 {
		l = append(l, 1<<i, ^uint32(1<<i))
	}
	return l
}

func someBytes(r *rand.Rand, n int) []byte {
	b := make([]byte, n)
	r.Read(b)
	return b
}

func wantAdd(t *testing.T, want, sum uint32, b []byte) {
	t.Helper()
	if got := Add(sum, b); got != want {
		t.Errorf("Add(%#x, %.40x) = %#x, not %#x", sum, b, got, want)
	}
}

func wantSum(t *testing.T, want uint32, parts ...[]byte) {
	t.Helper()
	if got := Sum(parts...); got != want {
		t.Errorf("Sum(%.40x) = %#x, not %#x", parts, got, want)
	}
}

func TestExample(t *testing.T) { // P3.1
	wantSum(t, exampleSum, []byte(example))
	wantAdd(t, exampleSum, 0, []byte(example))
	if got := byWords(0, []byte(example)); got != exampleSum {
		t.Errorf("the test's own words say %#x", got)
	}
}

func TestKnownSums(t *testing.T) { // P3.1
	for _, k := range []struct {
		text string
		sum  uint32
	}{
		{"\x00", 0xD202EF8D},
		{"\xFF", 0xFF000000},
		{"\x00\x00\x00\x00", 0x2144DF1C},
		{"\xFF\xFF\xFF\xFF", 0xFFFFFFFF},
		{"a", 0xE8B7BE43},
		{"abc", 0x352441C2},
		{"cba", 0xD8AEF480},
		{"The quick brown fox jumps over the lazy dog", 0x414FA339},
	} {
		wantSum(t, k.sum, []byte(k.text))
		wantAdd(t, k.sum, 0, []byte(k.text))
	}
}

func TestSumOfNothing(t *testing.T) { // P3.1
	wantSum(t, 0)
	wantSum(t, 0, nil)
	wantSum(t, 0, []byte{})
	wantSum(t, 0, nil, []byte{}, nil)
	wantSum(t, 0, [][]byte{}...)
	wantSum(t, 0, [][]byte(nil)...)
}

func TestPartsOfNothingAmongOthers(t *testing.T) { // P3.1
	text := []byte(example)
	wantSum(t, exampleSum, nil, text)
	wantSum(t, exampleSum, text, nil)
	wantSum(t, exampleSum, []byte{}, text[:4], nil, []byte{}, text[4:], nil)
}

func TestAddOfNoBytes(t *testing.T) { // P3.1
	for _, sum := range someSums() {
		wantAdd(t, sum, sum, nil)
		wantAdd(t, sum, sum, []byte{})
		wantAdd(t, sum, sum, []byte(example)[3:3])
	}
}

func TestEachByteBehindEachSum(t *testing.T) { // P3.1
	for _, sum := range someSums() {
		for c := range 256 {
			b := []byte{byte(c)}
			wantAdd(t, byWords(sum, b), sum, b)
		}
	}
}

func TestEachPairOfBytes(t *testing.T) { // P3.1
	for _, sum := range []uint32{0, math.MaxUint32, 1 << 31} {
		for c := range 256 {
			for d := 0; d < 256; d += 5 {
				b := []byte{byte(c), byte(d)}
				wantAdd(t, byWords(sum, b), sum, b)
			}
		}
	}
}

func TestManyBytes(t *testing.T) { // P3.1
	r := rand.New(rand.NewSource(3))
	for n := range 300 {
		b, sum := someBytes(r, n), r.Uint32()
		wantAdd(t, byWords(sum, b), sum, b)
		wantSum(t, byWords(0, b), b)
	}
	for _, n := range []int{1 << 12, 1<<16 - 1, 1 << 20} {
		b, sum := someBytes(r, n), r.Uint32()
		wantAdd(t, crc32.Update(sum, crc32.IEEETable, b), sum, b)
		wantSum(t, crc32.ChecksumIEEE(b), b)
	}
}

func TestCutIntoTwo(t *testing.T) { // P3.1
	text := someBytes(rand.New(rand.NewSource(4)), 130)
	whole := byWords(0, text)
	for i := range len(text) + 1 {
		wantSum(t, whole, text[:i], text[i:])
		wantAdd(t, whole, Sum(text[:i]), text[i:])
	}
	for _, sum := range someSums() {
		want := byWords(sum, []byte(example))
		for i := range len(example) + 1 {
			wantAdd(t, want, Add(sum, []byte(example[:i])), []byte(example[i:]))
		}
	}
}

func TestCutIntoThree(t *testing.T) { // P3.1
	text := someBytes(rand.New(rand.NewSource(5)), 40)
	whole := byWords(0, text)
	for i := range len(text) + 1 {
		for j := i; j <= len(text); j++ {
			wantSum(t, whole, text[:i], text[i:j], text[j:])
			wantAdd(t, whole, Add(Sum(text[:i]), text[i:j]), text[j:])
		}
	}
}

func TestManyParts(t *testing.T) { // P3.1
	text := someBytes(rand.New(rand.NewSource(6)), 5000)
	wantSum(t, byWords(0, text), slices.Collect(slices.Chunk(text, 1))...)
	wantSum(t, byWords(0, text), slices.Collect(slices.Chunk(text, 7))...)
}

func TestOrderOfParts(t *testing.T) { // P3.1
	a, b := []byte("ab"), []byte("c")
	wantSum(t, 0x352441C2, a, b)
	wantSum(t, byWords(0, []byte("cab")), b, a)
	if Sum(a, b) == Sum(b, a) {
		t.Error("the order of the parts isn't told")
	}
}

func TestOnePartTwice(t *testing.T) { // P3.1
	b := []byte("again")
	wantSum(t, byWords(0, []byte("againagain")), b, b)
}

func TestHandedInIsAsItWas(t *testing.T) { // P3.1, the rules that hold everywhere
	room := []byte("ahead" + example + "spare room")
	text := room[5:14]
	kept := bytes.Clone(room)
	parts := [][]byte{text[:3], nil, text[3:], {'x'}}
	wantSum(t, exampleSum, parts[:3]...)
	wantAdd(t, exampleSum, 0, text)
	if !bytes.Equal(room, kept) {
		t.Errorf("the bytes are %q now", room)
	}
	if len(parts[0]) != 3 || &parts[0][0] != &text[0] || parts[1] != nil || len(parts[2]) != 6 || &parts[2][0] != &text[3] || string(parts[3]) != "x" {
		t.Errorf("the parts are %q now", parts)
	}
}

func TestNothingIsKept(t *testing.T) { // P2
	b := []byte(example)
	for range 3 {
		wantSum(t, exampleSum, b)
		clear(b)
		wantSum(t, byWords(0, make([]byte, len(b))), b)
		wantAdd(t, byWords(7, []byte{1}), 7, []byte{1})
		copy(b, example)
	}
}
