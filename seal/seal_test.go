package seal

import (
	"bytes"
	"hash/crc32"
	"math"
	"math/rand"
	"testing"

	"bailey/api"
)

// someMarks: each bit alone, each byte alone, the least and the greatest, and such as are alike at one end.
func someMarks() []uint64 {
	l := []uint64{1, 2, 7, 255, 256, math.MaxUint32, math.MaxUint32 + 1, math.MaxInt64, math.MaxInt64 + 1, math.MaxUint64 - 1, math.MaxUint64, 0x0102030405060708, 0x0102030405060709, 0x1102030405060708, 0x0102030400000000, 0x0102030500000000}
	for i := range 64 {
		l = append(l, 1<<i)
	}
	for i := range 8 {
		l = append(l, 0xFF<<(8*i))
	}
	return l
}

// someBodies: of all lengths that may be, of zeros, of 255s, of bytes that all differ, and such as end with zeros.
func someBodies() [][]byte {
	l := [][]byte{nil, []byte("hi"), []byte("hi\x00"), []byte("hi\x00\x00"), []byte("\x00hi")}
	for n := range 107 {
		l = append(l, make([]byte, n), bytes.Repeat([]byte{255}, n), sloped(n))
	}
	return l
}

// sloped: n bytes that all differ; none is 0.
func sloped(n int) []byte {
	b := make([]byte, n)
	for i := range b {
		b[i] = byte(i + 1)
	}
	return b
}

// number lays a number of so many bytes, the highest first.
func number(s *api.Sector, at, width int, n uint64) {
	for i := range width {
		s[at+width-1-i] = byte(n)
		n /= 256
	}
}

// summed: the sector with the sum that its first 116 bytes have.
func summed(s api.Sector) api.Sector {
	number(&s, 116, 4, uint64(crc32.ChecksumIEEE(s[:116])))
	return s
}

// byWords: a sector as the chapter's words lay it, be its mark what it may.
func byWords(mark uint64, body []byte) api.Sector {
	var s api.Sector
	number(&s, 0, 8, mark)
	number(&s, 8, 2, uint64(len(body)))
	for i, c := range body {
		s[10+i] = c
	}
	number(&s, 120, 8, mark)
	return summed(s)
}

// openByWords: of all marks and bodies those of which the sector is the Make; the mark can only be that of its first bytes.
func openByWords(s api.Sector) (mark uint64, body []byte, ok bool) {
	for _, c := range s[:8] {
		mark = mark*256 + uint64(c)
	}
	for n := 0; mark != 0 && n <= 106; n++ {
		if byWords(mark, s[10:10+n]) == s {
			return mark, s[10 : 10+n], true
		}
	}
	return 0, nil, false
}

// torn: the first cut bytes of top, the others of under.
func torn(top, under api.Sector, cut int) api.Sector {
	for i := range cut {
		under[i] = top[i]
	}
	return under
}

func mustMake(t *testing.T, mark uint64, body []byte) api.Sector {
	t.Helper()
	s, err := Make(mark, body)
	if err != api.OK {
		t.Fatalf("Make(%#x, %x) answers %d", mark, body, err)
	}
	return s
}

func wantMake(t *testing.T, want api.Sector, mark uint64, body []byte) {
	t.Helper()
	if got := mustMake(t, mark, body); got != want {
		t.Errorf("Make(%#x, %x) = %v, not %v", mark, body, got, want)
	}
}

func wantNoMake(t *testing.T, mark uint64, body []byte) {
	t.Helper()
	if s, err := Make(mark, body); err != api.ErrSeal || s != (api.Sector{}) {
		t.Errorf("Make(%#x, %d bytes) = %v, %d", mark, len(body), s, err)
	}
}

func wantOpen(t *testing.T, s api.Sector, mark uint64, body []byte) {
	t.Helper()
	gotMark, gotBody, ok := Open(s)
	if gotMark != mark || !bytes.Equal(gotBody, body) || !ok {
		t.Errorf("Open(%v) = %#x, %x, %v, not %#x, %x", s, gotMark, gotBody, ok, mark, body)
	}
}

func wantNoOpen(t *testing.T, what string, s api.Sector) {
	t.Helper()
	if mark, body, ok := Open(s); mark != 0 || len(body) != 0 || ok {
		t.Errorf("%s: Open(%v) = %#x, %x, %v", what, s, mark, body, ok)
	}
}

func TestExample(t *testing.T) { // P5.1, P5.2
	var want api.Sector
	copy(want[:], []byte{0, 0, 0, 0, 0, 0, 0, 7, 0, 2, 104, 105})
	copy(want[116:], []byte{0xD4, 0x33, 0xEF, 0xCA, 0, 0, 0, 0, 0, 0, 0, 7})
	wantMake(t, want, 7, []byte("hi"))
	wantOpen(t, want, 7, []byte("hi"))
}

func TestMakeOfEachMark(t *testing.T) { // P5.1, P5.2
	for _, mark := range someMarks() {
		for _, body := range [][]byte{nil, {0}, []byte("hi"), sloped(105), sloped(106)} {
			wantMake(t, byWords(mark, body), mark, body)
			wantOpen(t, byWords(mark, body), mark, body)
		}
	}
}

func TestMakeOfEachBody(t *testing.T) { // P5.1, P5.2
	for _, mark := range []uint64{1, 7, 1 << 56, math.MaxUint64} {
		for _, body := range someBodies() {
			wantMake(t, byWords(mark, body), mark, body)
			wantOpen(t, byWords(mark, body), mark, body)
		}
	}
}

func TestBodyOfNothing(t *testing.T) { // P5.1, P5.2
	for _, body := range [][]byte{nil, {}, sloped(9)[4:4]} {
		s := mustMake(t, 3, body)
		if s != byWords(3, nil) {
			t.Errorf("Make(3, none) = %v", s)
		}
		wantOpen(t, s, 3, nil)
	}
}

func TestBodiesOfZerosAreToldApart(t *testing.T) { // P5.1, P5.2
	for n := range 107 {
		s := mustMake(t, 5, make([]byte, n))
		if s[8] != 0 || s[9] != byte(n) {
			t.Errorf("the count of %d zeros is %v", n, s[8:10])
		}
		wantOpen(t, s, 5, make([]byte, n))
	}
}

func TestMakeOfTheMark0(t *testing.T) { // P5.1
	for _, body := range someBodies() {
		wantNoMake(t, 0, body)
	}
	wantNoMake(t, 0, make([]byte, 107))
	wantNoMake(t, 0, make([]byte, 1<<16))
}

func TestMakeOfTooMuch(t *testing.T) { // P5.1
	for _, n := range []int{107, 108, 116, 117, 118, 127, 128, 129, 255, 256, 256 + 2, 1024, 1025, 1<<16 - 1, 1 << 16, 1<<16 + 2, 1 << 20} {
		for _, mark := range []uint64{1, 7, math.MaxUint64} {
			wantNoMake(t, mark, make([]byte, n))
			wantNoMake(t, mark, sloped(n))
		}
	}
}

func TestOpenOfZeros(t *testing.T) { // P5.2
	wantNoOpen(t, "zeros", api.Sector{})
	wantNoOpen(t, "zeros with their sum", summed(api.Sector{}))
	for _, body := range someBodies() {
		wantNoOpen(t, "the mark 0", byWords(0, body))
	}
}

func TestOpenOfOneByteTurned(t *testing.T) { // P5.2
	for _, mark := range []uint64{7, 1 << 56, 0x0102030405060708, math.MaxUint64} {
		for _, body := range [][]byte{nil, []byte("hi"), sloped(105), sloped(106), make([]byte, 50)} {
			whole := mustMake(t, mark, body)
			for i := range whole {
				for by := 1; by < 256; by++ {
					s := whole
					s[i] ^= byte(by)
					wantNoOpen(t, "one byte turned", s)
				}
			}
		}
	}
}

func TestOpenOfACountTooGreat(t *testing.T) { // P5.2
	for _, whole := range []api.Sector{byWords(7, nil), byWords(7, make([]byte, 106)), byWords(7, sloped(106)), byWords(math.MaxUint64, []byte("hi"))} {
		for count := 107; count < 1<<16; count++ {
			s := whole
			number(&s, 8, 2, uint64(count))
			wantNoOpen(t, "a count too great, without its sum", s)
			if count < 600 || count%256 < 130 {
				wantNoOpen(t, "a count too great", summed(s))
			}
		}
	}
}

func TestOpenOfAnotherCount(t *testing.T) { // P5.2
	whole := byWords(7, sloped(50))
	for count := range 107 {
		s := whole
		number(&s, 8, 2, uint64(count))
		switch {
		case count < 50:
			wantNoOpen(t, "a count too small", summed(s))
		default:
			wantOpen(t, summed(s), 7, append(sloped(50), make([]byte, count-50)...))
		}
		if count != 50 {
			wantNoOpen(t, "another count, without its sum", s)
		}
	}
}

func TestOpenOfAnotherSum(t *testing.T) { // P5.2
	s := byWords(7, []byte("hi"))
	for _, other := range []api.Sector{byWords(8, []byte("hi")), byWords(7, []byte("ho")), byWords(7, []byte("hi\x00")), byWords(7, nil), {}} {
		x := s
		copy(x[116:120], other[116:120])
		wantNoOpen(t, "another's sum", x)
	}
	for _, sum := range []uint32{0, math.MaxUint32, crc32.ChecksumIEEE(nil), crc32.ChecksumIEEE(s[:]), crc32.ChecksumIEEE(s[:10]), crc32.ChecksumIEEE(s[:12]), crc32.ChecksumIEEE(s[8:116]), crc32.ChecksumIEEE(s[10:116]), crc32.ChecksumIEEE(s[:115]), ^crc32.ChecksumIEEE(s[:116])} {
		x := s
		number(&x, 116, 4, uint64(sum))
		wantNoOpen(t, "the sum of other bytes", x)
	}
	x := s
	x[116], x[117], x[118], x[119] = s[119], s[118], s[117], s[116]
	wantNoOpen(t, "the sum with the lowest byte first", x)
}

func TestOpenOfUnlikeMarks(t *testing.T) { // P5.2
	for _, first := range append(someMarks(), 0) {
		for _, last := range append(someMarks(), 0) {
			s := byWords(first, []byte("hi"))
			number(&s, 120, 8, last)
			if first == last && first != 0 {
				wantOpen(t, s, first, []byte("hi"))
			} else {
				wantNoOpen(t, "unlike marks", s)
			}
		}
	}
}

func TestOpenOfBytesBehindTheBody(t *testing.T) { // P5.2
	for n := range 106 {
		whole := byWords(7, sloped(n))
		for i := 10 + n; i < 116; i++ {
			s := whole
			s[i] = 1 + byte(i)
			wantNoOpen(t, "a byte behind the body, without its sum", s)
			wantNoOpen(t, "a byte behind the body", summed(s))
		}
	}
}

func TestOpenOfManySectors(t *testing.T) { // P5.1, P5.2
	r := rand.New(rand.NewSource(5))
	for range 20000 {
		var s api.Sector
		if r.Intn(4) == 0 {
			r.Read(s[:])
		} else {
			body := make([]byte, r.Intn(107))
			r.Read(body)
			s = byWords(r.Uint64()>>r.Intn(64), body)
		}
		for range r.Intn(3) {
			s[r.Intn(128)] = byte(r.Intn(3))
		}
		if r.Intn(2) == 0 {
			s = summed(s)
		}
		if mark, body, ok := openByWords(s); ok {
			wantOpen(t, s, mark, body)
			wantMake(t, s, mark, body)
		} else {
			wantNoOpen(t, "any sector", s)
		}
	}
}

// wantTorn: however many bytes of top stand over under, it is one of both, whole, or none; under may be zeros.
func wantTorn(t *testing.T, top, under api.Sector) {
	t.Helper()
	for cut := range 129 {
		s := torn(top, under, cut)
		switch {
		case s == top || s == under && under != (api.Sector{}):
			if mark, body, ok := Open(s); !ok || mustMake(t, mark, body) != s {
				t.Errorf("a whole sector, cut at %d: Open(%v) = %#x, %x, %v", cut, s, mark, body, ok)
			}
		default:
			wantNoOpen(t, "torn", s)
		}
	}
}

func TestTorn(t *testing.T) { // P5.3
	bodies := [][]byte{nil, {0}, []byte("hi"), []byte("ho"), sloped(105), sloped(106), make([]byte, 106), bytes.Repeat([]byte{255}, 106)}
	marks := []uint64{1, 2, 7, 256, 1 << 56, 1<<56 + 1, 0x0102030405060708, 0x0102030405060709, 0x1102030405060708, math.MaxUint64 - 1, math.MaxUint64}
	for _, m := range marks {
		for _, b := range bodies {
			top := mustMake(t, m, b)
			wantTorn(t, top, api.Sector{})
			for _, m2 := range marks {
				for _, b2 := range bodies {
					if m2 != m {
						wantTorn(t, top, mustMake(t, m2, b2))
					}
				}
			}
		}
	}
}

func TestTornAtEachEdge(t *testing.T) { // P5.3
	old, top := mustMake(t, 1, []byte("old")), mustMake(t, 2, []byte("new"))
	for cut := range 8 { // the first seven bytes of both are alike
		wantOpen(t, torn(top, old, cut), 1, []byte("old"))
	}
	for cut := 8; cut < 128; cut++ {
		wantNoOpen(t, "torn", torn(top, old, cut))
	}
	wantOpen(t, torn(top, old, 128), 2, []byte("new"))
	top = mustMake(t, 1<<56, []byte("new"))
	for cut := range 121 {
		wantNoOpen(t, "torn over zeros", torn(top, api.Sector{}, cut))
	}
	for cut := 121; cut <= 128; cut++ { // of the last mark all but the first byte is 0
		wantOpen(t, torn(top, api.Sector{}, cut), 1<<56, []byte("new"))
	}
}

// The sum alone wouldn't find these: both sectors have one sum of their first 116 bytes.
func TestTornBetweenLikeSums(t *testing.T) { // P5.3
	top, under := byWords(1, sloped(106)), byWords(2, sloped(106))
	under = withSum(under, crc32.ChecksumIEEE(top[:116]))
	if !bytes.Equal(top[116:120], under[116:120]) {
		t.Fatal("the test's own sums are unlike")
	}
	wantOpen(t, under, 2, under[10:116])
	for cut := 8; cut < 128; cut++ {
		wantNoOpen(t, "torn between like sums", torn(top, under, cut))
	}
	wantTorn(t, top, under)
	wantTorn(t, under, top)
}

// withSum: the sector with other last four bytes of its body, so that its sum is this one; found bit by bit, as sums go by exclusive or.
func withSum(s api.Sector, sum uint32) api.Sector {
	clear(s[112:116])
	base := crc32.ChecksumIEEE(s[:116])
	type row struct{ turns, bits uint32 }
	var rows []row
	for bit := range 32 {
		x := s
		x[112+bit/8] = 1 << (bit % 8)
		rows = append(rows, row{crc32.ChecksumIEEE(x[:116]) ^ base, 1 << bit})
	}
	need, bits := sum^base, uint32(0)
	for place := range 32 {
		for i, r := range rows {
			if r.turns>>place&1 == 0 {
				continue
			}
			for j := range rows {
				if j != i && rows[j].turns>>place&1 == 1 {
					rows[j] = row{rows[j].turns ^ r.turns, rows[j].bits ^ r.bits}
				}
			}
			if need>>place&1 == 1 {
				need, bits = need^r.turns, bits^r.bits
			}
			rows[i] = row{}
			break
		}
	}
	for bit := range 32 {
		s[112+bit/8] |= byte(bits>>bit&1) << (bit % 8)
	}
	return summed(s)
}

func TestHandedInIsAsItWas(t *testing.T) { // the rules that hold everywhere
	room := []byte("ahead, the body, and spare room behind it")
	kept := bytes.Clone(room)
	body := room[7:15]
	s := mustMake(t, 7, body)
	if !bytes.Equal(room, kept) {
		t.Errorf("the bytes are %q now", room)
	}
	clear(room)
	wantOpen(t, s, 7, kept[7:15])
	was := s
	Open(s)
	if s != was {
		t.Errorf("the sector is %v now", s)
	}
	room = append(make([]byte, 107), 1, 2, 3)
	wantNoMake(t, 7, room[:107])
	if !bytes.Equal(room, append(make([]byte, 107), 1, 2, 3)) {
		t.Errorf("the bytes are %v now", room)
	}
}

func TestAnswersAreNewMemory(t *testing.T) { // the rules that hold everywhere
	for _, n := range []int{0, 1, 2, 105, 106} {
		s := mustMake(t, 7, sloped(n))
		_, first, _ := Open(s)
		_, second, _ := Open(s)
		room := first[:cap(first)]
		for i := range room {
			room[i] = 99
		}
		_ = append(first, 98, 98, 98)
		if !bytes.Equal(second, sloped(n)) {
			t.Errorf("another answer is %v now", second)
		}
		wantOpen(t, s, 7, sloped(n))
		wantMake(t, s, 7, sloped(n))
	}
}

func TestNothingIsKept(t *testing.T) { // P2
	good, bad := byWords(9, []byte("one")), byWords(0, []byte("one"))
	for range 3 {
		wantMake(t, good, 9, []byte("one"))
		wantNoMake(t, 0, []byte("one"))
		wantOpen(t, good, 9, []byte("one"))
		wantNoOpen(t, "the mark 0", bad)
		wantMake(t, byWords(9, nil), 9, nil)
		wantNoMake(t, 9, make([]byte, 107))
		wantOpen(t, byWords(1, sloped(106)), 1, sloped(106))
	}
}
