package journal

import (
	"bytes"
	"hash/crc32"
	"math"
	"math/rand"
	"slices"
	"strconv"
	"testing"

	"bailey/api"
	"bailey/disk"
)

// regionSize is how many sectors a REGION has.
const regionSize = 16

// someGens: the generations that the issue names, and such as differ in their highest, their lowest or no common byte.
var someGens = []uint64{1, 2, 5, 255, 256, 257, 1 << 24, 1<<32 - 1, 1 << 32, 1<<48 - 2, 1<<48 - 1}

// someLengths: the edges of a record's length, and some between.
var someLengths = []int{0, 1, 2, 100, 127, 128, 129, 200, 255, 256, 257, 300, 383, 384}

// step is what an Add does to its disk: a write of a sector, or a flush.
type step struct {
	flush bool
	at    int
	text  api.Sector
}

// sloped: n bytes of which no two neighbours are alike, and none is 0; from another x on they are others.
func sloped(n, x int) []byte {
	b := make([]byte, n)
	for i := range b {
		b[i] = byte((i*7+x*31)%255 + 1)
	}
	return b
}

// filled: a sector whose bytes are all x.
func filled(x byte) (s api.Sector) {
	for i := range s {
		s[i] = x
	}
	return s
}

// number lays a number of so many bytes, the highest first.
func number(b []byte, n uint64) {
	for i := range b {
		b[len(b)-1-i] = byte(n)
		n /= 256
	}
}

// sealed: a sealed sector, byte by byte as chapter 5 lays it.
func sealed(mark uint64, body []byte) (s api.Sector) {
	number(s[:8], mark)
	number(s[8:10], uint64(len(body)))
	copy(s[10:116], body)
	number(s[116:120], uint64(crc32.ChecksumIEEE(s[:116])))
	number(s[120:], mark)
	return s
}

// bodyOf: a head's body, for a count and a sum that need not be those of any record.
func bodyOf(count int, sum uint32) []byte {
	b := make([]byte, 6)
	number(b[:2], uint64(count))
	number(b[2:], uint64(sum))
	return b
}

// headByWords: the head of a record, by its number from 1 on.
func headByWords(gen uint64, n int, b []byte) api.Sector {
	return sealed(gen*256+uint64(n), bodyOf(len(b), crc32.ChecksumIEEE(b)))
}

// sectorsByWords: a record's bytes, 128 to each sector, the last one filled up with zeros.
func sectorsByWords(b []byte) (l []api.Sector) {
	for ; len(b) > 0; b = b[min(len(b), 128):] {
		var s api.Sector
		copy(s[:], b)
		l = append(l, s)
	}
	return l
}

// stepsByWords: what the Add of the record of a number does, in order.
func stepsByWords(first int, gen uint64, n int, b []byte) (l []step) {
	head := first + 4*(n-1)
	for i, s := range sectorsByWords(b) {
		l = append(l, step{at: head + 1 + i, text: s})
	}
	return append(l, step{flush: true}, step{at: head, text: headByWords(gen, n, b)}, step{flush: true})
}

// scanByWords: a Scan that asks of each place whether its head is that of the bytes behind it.
func scanByWords(d *disk.Disk, first int, gen uint64) (l [][]byte) {
	for n := 1; n <= 4; n++ {
		var bytesBehind []byte
		for i := range 3 {
			s, _ := d.Read(first + 4*(n-1) + 1 + i)
			bytesBehind = append(bytesBehind, s[:]...)
		}
		head, _ := d.Read(first + 4*(n-1))
		count := int(head[10])*256 + int(head[11])
		if count > 384 || headByWords(gen, n, bytesBehind[:count]) != head {
			return l
		}
		l = append(l, bytesBehind[:count])
	}
	return l
}

// dirty: a disk whose sectors are all flushed, and of no zeros.
func dirty(t *testing.T, sectors int) *disk.Disk {
	t.Helper()
	d := disk.New(sectors)
	for i := range sectors {
		mustWrite(t, d, i, filled(byte(i%255+1)))
	}
	mustFlush(t, d)
	return d
}

// stableOf: all that is stable of a disk.
func stableOf(d *disk.Disk) (l []api.Sector) {
	for i := range d.Len() {
		l = append(l, d.Stable(i))
	}
	return l
}

// diskOf: a new disk on which these sectors are stable.
func diskOf(t *testing.T, sectors []api.Sector) *disk.Disk {
	t.Helper()
	d := disk.New(len(sectors))
	for i, s := range sectors {
		if s != (api.Sector{}) {
			mustWrite(t, d, i, s)
		}
	}
	mustFlush(t, d)
	return d
}

func wantErr(t *testing.T, what string, got, want api.Errno) {
	t.Helper()
	if got != want {
		t.Fatalf("%s answers %d, not %d", what, got, want)
	}
}

func mustWrite(t *testing.T, d *disk.Disk, i int, s api.Sector) {
	t.Helper()
	wantErr(t, "Write", d.Write(i, s), api.OK)
}

func mustFlush(t *testing.T, d *disk.Disk) {
	t.Helper()
	wantErr(t, "Flush", d.Flush(), api.OK)
}

func mustAdd(t *testing.T, j *Journal, records ...[]byte) {
	t.Helper()
	for _, b := range records {
		wantErr(t, "Add", j.Add(b), api.OK)
	}
}

func wantLen(t *testing.T, j *Journal, want int) {
	t.Helper()
	if got := j.Len(); got != want {
		t.Errorf("Len() = %d, not %d", got, want)
	}
}

func wantPending(t *testing.T, d *disk.Disk, want ...int) {
	t.Helper()
	if got := d.Pending(); !slices.Equal(got, want) {
		t.Errorf("pending are %v, not %v", got, want)
	}
}

func wantStable(t *testing.T, d *disk.Disk, want []api.Sector) {
	t.Helper()
	for i := range want {
		if got := d.Stable(i); got != want[i] {
			t.Errorf("sector %d is %v, not %v", i, got, want[i])
		}
	}
}

func alike(a, b [][]byte) bool { return slices.EqualFunc(a, b, bytes.Equal) }

func wantScan(t *testing.T, what string, d *disk.Disk, first int, gen uint64, want ...[]byte) {
	t.Helper()
	if got := Scan(d, first, gen); !alike(got, want) {
		t.Errorf("%s: Scan(%d, %#x) = %x, not %x", what, first, gen, got, want)
	}
}

func TestExample(t *testing.T) { // P6.2, P6.3, P6.4
	d := disk.New(16)
	j := Start(d, 0, 1)
	mustAdd(t, j, []byte("a"), []byte("b"))
	d.Crash(nil, -1, 0)
	wantScan(t, "behind the crash", d, 0, 1, []byte("a"), []byte("b"))
}

func TestStartWritesNothing(t *testing.T) { // P6.1
	for _, gen := range someGens {
		d := dirty(t, 40)
		mustWrite(t, d, 39, filled(0))
		was := stableOf(d)
		d.Break(1)
		j := Start(d, 7, gen)
		wantLen(t, j, 0)
		wantPending(t, d, 39)
		wantStable(t, d, was)
		wantErr(t, "the Flush that has power yet", d.Flush(), api.OK)
	}
}

func TestStartForgetsWhatStandsThere(t *testing.T) { // P6.1: without records, whatever the REGION holds
	d := disk.New(16)
	mustAdd(t, Start(d, 0, 1), []byte("a"), []byte("b"))
	j := Start(d, 0, 1)
	wantLen(t, j, 0)
	wantScan(t, "nothing is written", d, 0, 1, []byte("a"), []byte("b"))
	mustAdd(t, Start(d, 0, 2), []byte("c"))
	wantScan(t, "the new generation", d, 0, 2, []byte("c"))
	wantScan(t, "the old one, whose first head is gone", d, 0, 1)
}

func TestLen(t *testing.T) { // P6.1, P6.2: its own count, not its disk's
	d := disk.New(40)
	j := Start(d, 3, 9)
	for n := range 4 {
		wantLen(t, j, n)
		wantErr(t, "Add of too much", j.Add(make([]byte, 385)), api.ErrRecord)
		wantLen(t, j, n)
		mustAdd(t, j, sloped(n*100, n))
		wantLen(t, j, n+1)
	}
	wantErr(t, "a fifth", j.Add(nil), api.ErrFull)
	wantLen(t, j, 4)
	wantLen(t, Start(d, 3, 9), 0)
}

func TestMethodsOfTheDisk(t *testing.T) { // the section Ways: a journal's disk is embedded, its methods are promoted
	d := disk.New(16)
	j := Start(d, 0, 1)
	wantErr(t, "Write", j.Write(15, filled(3)), api.OK)
	if s, err := j.Read(15); s != filled(3) || err != api.OK {
		t.Errorf("Read = %v, %d", s, err)
	}
	if !slices.Equal(j.Pending(), []int{15}) || j.Dead() || j.Disk.Len() != 16 {
		t.Error("the journal's disk isn't the one that was handed in")
	}
	wantPending(t, d, 15)
}

func TestAddOfEachLength(t *testing.T) { // P6.2, P6.3
	for _, n := range someLengths {
		for _, b := range [][]byte{sloped(n, n), make([]byte, n), bytes.Repeat([]byte{255}, n)} {
			d := dirty(t, 16)
			want := stableOf(d)
			copy(want[1:], sectorsByWords(b))
			want[0] = headByWords(3, 1, b)
			j := Start(d, 0, 3)
			mustAdd(t, j, b)
			wantLen(t, j, 1)
			wantPending(t, d)
			wantStable(t, d, want)
			wantScan(t, strconv.Itoa(n), d, 0, 3, b)
		}
	}
}

func TestAddOfAllLengths(t *testing.T) { // P6.2, P6.3
	for n := 0; n <= 384; n++ {
		d := disk.New(16)
		mustAdd(t, Start(d, 0, 1), sloped(n, n))
		wantScan(t, strconv.Itoa(n), d, 0, 1, sloped(n, n))
	}
}

func TestAddOfNilIsAddOfNone(t *testing.T) { // P6.2, and the rule of nil and empty lists
	a, b := dirty(t, 16), dirty(t, 16)
	mustAdd(t, Start(a, 0, 1), nil, nil)
	mustAdd(t, Start(b, 0, 1), []byte{}, make([]byte, 0, 50))
	wantStable(t, a, stableOf(b))
	wantScan(t, "nil", a, 0, 1, nil, nil)
}

// wantRefused: an Add answers err and does nothing to the disk; of power it takes none, either.
func wantRefused(t *testing.T, d *disk.Disk, j *Journal, b []byte, err api.Errno) {
	t.Helper()
	was, len0 := stableOf(d), j.Len()
	mustWrite(t, d, d.Len()-1, filled(77))
	d.Break(1)
	wantErr(t, "Add", j.Add(b), err)
	wantPending(t, d, d.Len()-1)
	wantStable(t, d, was)
	wantLen(t, j, len0)
	wantErr(t, "the Flush that has power yet", d.Flush(), api.OK)
	wantErr(t, "the one that hasn't", d.Flush(), api.ErrPower)
	wantErr(t, "Add without power", j.Add(b), err)
	d.Crash(nil, -1, 0)
}

func TestAddOfTooMuch(t *testing.T) { // P6.2: ErrRecord
	d := dirty(t, 20)
	j := Start(d, 0, 1)
	for n := range 5 {
		for _, size := range []int{385, 386, 511, 512, 513, 640, 65535, 65536, 65537, 65536 + 384, 1 << 20} {
			wantRefused(t, d, j, make([]byte, size), api.ErrRecord)
		}
		if n < 4 {
			mustAdd(t, j, sloped(384, n))
		}
	}
	wantScan(t, "the four of 384", d, 0, 1, sloped(384, 0), sloped(384, 1), sloped(384, 2), sloped(384, 3))
}

func TestFifthRecord(t *testing.T) { // P6.2: ErrFull, and ErrRecord ahead of it
	d := dirty(t, 20)
	j := Start(d, 0, 1)
	l := [][]byte{sloped(384, 1), nil, sloped(1, 2), sloped(129, 3)}
	mustAdd(t, j, l...)
	for _, n := range someLengths {
		wantRefused(t, d, j, sloped(n, 9), api.ErrFull)
	}
	wantRefused(t, d, j, sloped(385, 9), api.ErrRecord)
	wantScan(t, "the four", d, 0, 1, l...)
}

func TestHeadsByteByByte(t *testing.T) { // P6.2: of the mark and the body
	hi := []byte{0, 2, 0xD8, 0x93, 0x2A, 0xAC} // two bytes, and the sum of hi
	for _, c := range []struct {
		gen  uint64
		mark [7]byte
	}{
		{1, [7]byte{0, 0, 0, 0, 0, 0, 1}},
		{2, [7]byte{0, 0, 0, 0, 0, 0, 2}},
		{0x010203040506, [7]byte{0, 1, 2, 3, 4, 5, 6}},
		{1<<48 - 1, [7]byte{0, 255, 255, 255, 255, 255, 255}},
	} {
		d := disk.New(16)
		mustAdd(t, Start(d, 0, c.gen), []byte("hi"), []byte("hi"), []byte("hi"), []byte("hi"))
		for n := range 4 {
			head := d.Stable(4 * n)
			mark := append(c.mark[:], byte(n+1))
			want := slices.Concat(mark, []byte{0, 6}, hi, make([]byte, 100))
			if !bytes.Equal(head[:116], want) || !bytes.Equal(head[120:], mark) {
				t.Errorf("generation %#x: the head of record %d is %v", c.gen, n+1, head)
			}
			var text api.Sector
			copy(text[:], "hi")
			if d.Stable(4*n+1) != text || d.Stable(4*n+2) != (api.Sector{}) {
				t.Errorf("generation %#x: the bytes of record %d aren't there", c.gen, n+1)
			}
		}
	}
}

func TestLastSectorIsFilledWithZeros(t *testing.T) { // P6.2: not with what stood there, nor with an earlier record's bytes
	for _, n := range []int{1, 127, 129, 255, 257, 300, 383} {
		d := dirty(t, 16)
		long := bytes.Repeat([]byte{9}, 1000)
		mustAdd(t, Start(d, 0, 1), long[:n], long[:384], long[:n])
		for _, place := range []int{0, 8} {
			last := d.Stable(place + (n+127)/128)
			for i, c := range last {
				if within := i <= (n-1)%128; within != (c == 9) || !within && c != 0 {
					t.Fatalf("%d bytes: byte %d of the last sector is %d", n, i, c)
				}
			}
		}
	}
}

// wantHalfDone: the Add of a journal's next record, with power for so many steps alone, has done these and no others.
func wantHalfDone(t *testing.T, d *disk.Disk, j *Journal, b []byte, steps []step, power int) {
	t.Helper()
	want := stableOf(d)
	last := slices.Clone(want)
	var pending []int
	for _, s := range steps[:power] {
		if s.flush {
			want, pending = slices.Clone(last), nil
		} else {
			last[s.at], pending = s.text, append(pending, s.at)
		}
	}
	err := api.OK
	if power < len(steps) {
		err = api.ErrPower
	}
	d.Break(power)
	wantErr(t, "Add", j.Add(b), err)
	wantPending(t, d, pending...)
	wantStable(t, d, want)
	for i := range last {
		if s, _ := d.Read(i); s != last[i] {
			t.Errorf("%d steps: sector %d reads as %v, not %v", power, i, s, last[i])
		}
	}
	if d.Dead() != (power < len(steps)) {
		t.Errorf("%d steps of %d: dead is %v", power, len(steps), d.Dead())
	}
}

func TestStepsOfAdd(t *testing.T) { // P6.2: what is written, in which order, where the disk is flushed, and its first error
	for _, n := range someLengths {
		for number := 1; number <= 4; number++ {
			b := sloped(n, number)
			steps := stepsByWords(2, 77, number, b)
			if len(steps) != (n+127)/128+3 {
				t.Fatal("the test's own steps are wrong")
			}
			for power := range len(steps) + 1 {
				d := dirty(t, 20)
				j := Start(d, 2, 77)
				for before := 1; before < number; before++ {
					mustAdd(t, j, sloped(before*100, before))
				}
				wantHalfDone(t, d, j, b, steps, power)
			}
		}
	}
}

func TestAddFlushesOthersToo(t *testing.T) { // P6.2: a Flush is the disk's
	d := disk.New(20)
	j := Start(d, 0, 1)
	mustWrite(t, d, 19, filled(1))
	mustWrite(t, d, 1, filled(2))
	d.Break(1)
	wantErr(t, "Add", j.Add([]byte("a")), api.ErrPower)
	wantPending(t, d, 19, 1, 1)
	d.Crash([]bool{true, true, false}, -1, 0)
	if d.Stable(19) != filled(1) || d.Stable(1) != filled(2) {
		t.Error("what was pending ahead of the Add isn't kept as it was")
	}
	j = Start(d, 0, 2)
	mustWrite(t, d, 18, filled(3))
	mustAdd(t, j, []byte("a"))
	wantPending(t, d)
	if d.Stable(18) != filled(3) {
		t.Error("what was pending ahead of the Add isn't stable behind it")
	}
}

func TestRegions(t *testing.T) { // P6.1, P6.2, P6.3: at the disk's beginning, its end, and between
	for _, sectors := range []int{16, 17, 20, 100, 1024} {
		for _, first := range []int{0, 1, 3, sectors - 17, sectors - 16} {
			if first < 0 || first > sectors-regionSize {
				continue
			}
			d := dirty(t, sectors)
			want := stableOf(d)
			l := [][]byte{sloped(384, 1), sloped(384, 2), sloped(130, 3), sloped(384, 4)}
			for n, b := range l {
				copy(want[first+4*n+1:], sectorsByWords(b))
				want[first+4*n] = headByWords(6, n+1, b)
			}
			mustAdd(t, Start(d, first, 6), l...)
			wantStable(t, d, want)
			wantScan(t, "the region", d, first, 6, l...)
			wantScan(t, "one place on", d, first+4, 6)
			wantScan(t, "one sector on", d, first+1, 6)
			wantScan(t, "one sector ahead", d, first-1, 6)
		}
	}
}

func TestTwoJournalsOfOneDisk(t *testing.T) { // P6.1, P6.2, P2
	d := disk.New(32)
	a, b := Start(d, 0, 4), Start(d, 16, 4)
	for n := range 4 {
		mustAdd(t, a, sloped(384, n))
		wantLen(t, a, n+1)
		wantLen(t, b, n)
		mustAdd(t, b, sloped(384, 10+n))
	}
	wantScan(t, "the first", d, 0, 4, sloped(384, 0), sloped(384, 1), sloped(384, 2), sloped(384, 3))
	wantScan(t, "the second", d, 16, 4, sloped(384, 10), sloped(384, 11), sloped(384, 12), sloped(384, 13))
}

func TestScanOfNothing(t *testing.T) { // P6.3
	for _, gen := range someGens {
		wantScan(t, "never written", disk.New(16), 0, gen)
		wantScan(t, "no heads", dirty(t, 40), 5, gen)
		d := disk.New(16)
		j := Start(d, 0, gen)
		wantScan(t, "started", d, 0, gen)
		mustAdd(t, j, []byte("a"))
		wantScan(t, "one", d, 0, gen, []byte("a"))
	}
}

func TestScanOfAnotherGeneration(t *testing.T) { // P6.3
	for _, gen := range someGens {
		d := disk.New(16)
		mustAdd(t, Start(d, 0, gen), []byte("a"), []byte("b"))
		for _, other := range append(someGens, gen-1, gen+1, gen+256, gen<<8, gen>>8, gen^1<<47) {
			if other != gen && other >= 1 && other <= 1<<48-1 {
				wantScan(t, "of another", d, 0, other)
			}
		}
		wantScan(t, "its own", d, 0, gen, []byte("a"), []byte("b"))
	}
}

func TestScanOfMixedGenerations(t *testing.T) { // P6.3: the records of that generation, up to the first place that isn't of it
	d := disk.New(16)
	mustAdd(t, Start(d, 0, 1), []byte("a"), []byte("b"), []byte("c"), []byte("d"))
	mustAdd(t, Start(d, 0, 2), []byte("e"), []byte("f"))
	wantScan(t, "the later one ends where the earlier one's heads are", d, 0, 2, []byte("e"), []byte("f"))
	wantScan(t, "the earlier one has no first record any more", d, 0, 1)
}

// four: a disk with four records of the generation 5 in the REGION from 2 on, and these records.
func four(t *testing.T) (*disk.Disk, [][]byte) {
	t.Helper()
	d := disk.New(20)
	l := [][]byte{sloped(300, 1), sloped(128, 2), sloped(5, 3), sloped(384, 4)}
	mustAdd(t, Start(d, 2, 5), l...)
	return d, l
}

// wantEndsAt: with this head at a place (from 0 on) a Scan finds the records ahead of it and none behind.
func wantEndsAt(t *testing.T, what string, place int, head api.Sector) {
	t.Helper()
	d, l := four(t)
	mustWrite(t, d, 2+4*place, head)
	wantScan(t, what, d, 2, 5, l[:place]...)
	mustFlush(t, d)
	wantScan(t, what, d, 2, 5, l[:place]...)
}

func TestScanOfHeadsThatAreNoSeal(t *testing.T) { // P6.3
	_, l := four(t)
	for place, b := range l {
		wantEndsAt(t, "zeros", place, api.Sector{})
		wantEndsAt(t, "255s", place, filled(255))
		for i := range 128 {
			for _, flip := range []byte{1, 128, 255} {
				head := headByWords(5, place+1, b)
				head[i] ^= flip
				wantEndsAt(t, "the byte "+strconv.Itoa(i), place, head)
			}
		}
	}
}

func TestScanOfHeadsWithAnotherMark(t *testing.T) { // P6.3: another record's number, another generation
	_, l := four(t)
	for place, b := range l {
		body := bodyOf(len(b), crc32.ChecksumIEEE(b))
		right := uint64(5*256 + place + 1)
		marks := []uint64{1, 5, uint64(place), uint64(place + 1), 5 * 256, math.MaxUint64}
		for n := range 256 {
			marks = append(marks, 5*256+uint64(n), uint64(n)*256+uint64(place+1))
		}
		for i := range 64 {
			marks = append(marks, right^1<<i)
		}
		for _, mark := range marks {
			if mark != right && mark != 0 {
				wantEndsAt(t, "the mark "+strconv.FormatUint(mark, 16), place, sealed(mark, body))
			}
		}
	}
}

func TestScanOfHeadsWithAnotherBody(t *testing.T) { // P6.3: not packed as 24
	_, l := four(t)
	for place, b := range l {
		body := bodyOf(len(b), crc32.ChecksumIEEE(b))
		mark := uint64(5*256 + place + 1)
		for n := range 6 {
			wantEndsAt(t, "too short", place, sealed(mark, body[:n]))
			wantEndsAt(t, "too short, from behind", place, sealed(mark, body[n+1:]))
		}
		for n := 7; n <= 106; n++ {
			wantEndsAt(t, "too long", place, sealed(mark, append(body, make([]byte, n-6)...)))
		}
		wide := append(make([]byte, 2), body...)
		wantEndsAt(t, "packed as 44", place, sealed(mark, wide))
		low := slices.Concat(body[1:2], body[:1], body[2:])
		if body[0] != body[1] {
			wantEndsAt(t, "the lowest byte first", place, sealed(mark, low))
		}
	}
}

func TestScanOfHeadsWithAnEmptyBody(t *testing.T) { // P6.3: a head without a body is no record of no bytes
	d := disk.New(16)
	mustWrite(t, d, 0, sealed(257, nil))
	wantScan(t, "none", d, 0, 1)
	mustWrite(t, d, 0, sealed(257, bodyOf(0, 0)))
	wantScan(t, "a record without bytes", d, 0, 1, nil)
	mustWrite(t, d, 0, sealed(257, bodyOf(0, 1)))
	wantScan(t, "a sum of no bytes that isn't 0", d, 0, 1)
}

func TestScanOfCounts(t *testing.T) { // P6.3: above 384, though the bytes behind the head have that sum
	var region []byte
	d := disk.New(1024)
	for i := 1; i < 1024; i++ {
		mustWrite(t, d, i, filled(byte(i)))
		s := filled(byte(i))
		region = append(region, s[:]...)
	}
	mustFlush(t, d)
	for count := 0; count <= 65535; count += 1 + count/512*64 {
		mustWrite(t, d, 0, sealed(257, bodyOf(count, crc32.ChecksumIEEE(region[:count]))))
		if count <= 384 {
			wantScan(t, "a count of "+strconv.Itoa(count), d, 0, 1, region[:count])
		} else {
			wantScan(t, "a count of "+strconv.Itoa(count), d, 0, 1)
		}
		mustFlush(t, d)
	}
	mustWrite(t, d, 0, sealed(257, bodyOf(65535, crc32.ChecksumIEEE(region[:65535]))))
	wantScan(t, "the greatest count", d, 0, 1)
}

func TestScanOfSums(t *testing.T) { // P6.3: a sum that isn't that of the bytes
	_, l := four(t)
	for place, b := range l {
		sum, mark := crc32.ChecksumIEEE(b), uint64(5*256+place+1)
		for i := range 32 {
			wantEndsAt(t, "another sum", place, sealed(mark, bodyOf(len(b), sum^1<<i)))
		}
		wantEndsAt(t, "a byte less", place, sealed(mark, bodyOf(len(b)-1, sum)))
		wantEndsAt(t, "none", place, sealed(mark, bodyOf(0, sum)))
		if len(b) < 384 {
			wantEndsAt(t, "a byte more", place, sealed(mark, bodyOf(len(b)+1, sum)))
		}
	}
}

func TestScanOfOtherBytes(t *testing.T) { // P6.3: the record's own bytes count, those that fill up the sector don't
	_, l := four(t)
	for place, b := range l {
		for i := range 384 {
			d, _ := four(t)
			at := 2 + 4*place + 1 + i/128
			s := d.Stable(at)
			s[i%128] ^= 64
			mustWrite(t, d, at, s)
			if i < len(b) {
				wantScan(t, "byte "+strconv.Itoa(i), d, 2, 5, l[:place]...)
			} else {
				wantScan(t, "byte "+strconv.Itoa(i), d, 2, 5, l...)
			}
		}
	}
}

func TestScanOfAHeadLaidByHand(t *testing.T) { // P6.3: whoever wrote them, these are records
	for _, gen := range someGens {
		d := disk.New(18)
		l := [][]byte{sloped(1, 1), sloped(384, 2), nil, sloped(129, 4)}
		for n, b := range l {
			for _, s := range stepsByWords(1, gen, n+1, b) {
				if !s.flush {
					mustWrite(t, d, s.at, s.text)
				}
			}
			wantScan(t, "by hand", d, 1, gen, l[:n+1]...)
		}
	}
}

func TestScanStopsBehindFourPlaces(t *testing.T) { // P6.3: a REGION has four
	d := disk.New(24)
	for n := 1; n <= 5; n++ {
		mustWrite(t, d, 4*(n-1), headByWords(1, n, nil))
	}
	wantScan(t, "a fifth head behind the REGION", d, 0, 1, nil, nil, nil, nil)
}

func TestScanWhileWritesArePending(t *testing.T) { // P6.3: what is read is layer 4's Read
	d := disk.New(16)
	mustAdd(t, Start(d, 0, 1), []byte("a"), []byte("b"))
	mustWrite(t, d, 4, api.Sector{})
	wantScan(t, "the second head is overwritten", d, 0, 1, []byte("a"))
	mustWrite(t, d, 4, headByWords(1, 2, []byte("b")))
	wantScan(t, "and laid again", d, 0, 1, []byte("a"), []byte("b"))
	mustWrite(t, d, 1, filled(1))
	wantScan(t, "the first one's bytes are others", d, 0, 1)
	mustWrite(t, d, 0, sealed(257, bodyOf(128, crc32.ChecksumIEEE(bytes.Repeat([]byte{1}, 128)))))
	wantScan(t, "and its head is theirs", d, 0, 1, bytes.Repeat([]byte{1}, 128), []byte("b"))
	wantPending(t, d, 4, 4, 1, 0)
	d.Crash(nil, -1, 0)
	wantScan(t, "all that is gone", d, 0, 1, []byte("a"), []byte("b"))
}

func TestScanOfAnAddUnderWay(t *testing.T) { // P6.3: its head is pending, and read
	d := disk.New(16)
	j := Start(d, 0, 1)
	d.Break(3)
	wantErr(t, "Add", j.Add([]byte("a")), api.ErrPower)
	wantPending(t, d, 0)
	wantScan(t, "without power", d, 0, 1, []byte("a"))
	d.Crash(nil, -1, 0)
	wantScan(t, "behind the crash", d, 0, 1)
}

func TestScanDoesNothing(t *testing.T) { // P6.3, P2
	d, l := four(t)
	mustWrite(t, d, 17, api.Sector{})
	was := stableOf(d)
	d.Break(1)
	for range 3 {
		wantScan(t, "again", d, 2, 5, l[0], l[1], l[2])
	}
	wantPending(t, d, 17)
	wantStable(t, d, was)
	wantErr(t, "the Flush that has power yet", d.Flush(), api.OK)
	wantErr(t, "the one that hasn't", d.Flush(), api.ErrPower)
	wantScan(t, "without power", d, 2, 5, l[0], l[1], l[2])
}

// addAll adds records, with power for so many steps (below 0: for all); it tells how many Adds answered OK.
func addAll(t *testing.T, d *disk.Disk, first int, gen uint64, records [][]byte, power int) int {
	t.Helper()
	d.Break(power)
	j := Start(d, first, gen)
	for n, b := range records {
		wantLen(t, j, n)
		if err := j.Add(b); err != api.OK {
			wantErr(t, "Add", err, api.ErrPower)
			return n
		}
	}
	d.Break(-1)
	return len(records)
}

// wantOutlived: a Scan finds the first kept records, and perhaps the next one, whole; it tells how many.
func wantOutlived(t *testing.T, d *disk.Disk, first int, gen uint64, records [][]byte, kept int) int {
	t.Helper()
	got := Scan(d, first, gen)
	if len(got) < kept || len(got) > kept+1 || len(got) > len(records) || !alike(got, records[:len(got)]) {
		t.Fatalf("generation %#x: of %d records %d were added; found are %x", gen, len(records), kept, got)
	}
	if told := scanByWords(d, first, gen); !alike(got, told) {
		t.Fatalf("generation %#x: found are %x, not %x", gen, got, told)
	}
	return len(got)
}

// eachCrash goes through all crashes of so many pending writes: each subset that is kept, none torn or one, at each number of bytes.
func eachCrash(pending int, visit func(keep []bool, torn, cut int)) {
	for subset := range 1 << pending {
		keep := make([]bool, pending)
		for i := range keep {
			keep[i] = subset>>i&1 == 1
		}
		visit(keep, -1, 0)
		for torn, kept := range keep {
			for cut := 0; !kept && cut <= 128; cut++ {
				visit(keep, torn, cut)
			}
		}
	}
}

// wantOutliveAll: whenever the power goes while records are added to these sectors, a Scan finds what P6.4 says behind each crash; the answer is the sectors behind one of the crashes in which the record under way was lost.
func wantOutliveAll(t *testing.T, sectors []api.Sector, first int, gen uint64, records [][]byte) (spoilt []api.Sector) {
	t.Helper()
	steps := 0
	for n, b := range records {
		steps += len(stepsByWords(first, gen, n+1, b))
	}
	lost, found := 0, 0 // in how many crashes the record under way was: the test must reach both
	for power := range steps + 1 {
		d := diskOf(t, sectors)
		kept := addAll(t, d, first, gen, records, power)
		was, pending := stableOf(d), d.Pending()
		eachCrash(len(pending), func(keep []bool, torn, cut int) {
			again := diskOf(t, was)
			for _, at := range pending {
				s, _ := d.Read(at)
				mustWrite(t, again, at, s)
			}
			again.Crash(keep, torn, cut)
			if wantOutlived(t, again, first, gen, records, kept) > kept {
				found++
			} else if kept < len(records) {
				lost++
			}
			if torn == 0 && cut == 60 && len(pending) == 1 && pending[0]%4 == first%4 && kept == len(records)/2 {
				spoilt = stableOf(again)
			}
			if later := Scan(again, first, gen+1); len(later) != 0 {
				t.Fatalf("generation %#x, of which nothing was written: found are %x", gen+1, later)
			}
		})
	}
	if lost == 0 || found == 0 {
		t.Errorf("generation %#x: the record under way was lost in %d crashes and found in %d", gen, lost, found)
	}
	return spoilt
}

func TestCrashOfGenerations(t *testing.T) { // P6.4: each crash, for several generations one behind the other in one REGION
	for _, gens := range [][]uint64{{1, 2, 3}, {255, 256, 257}, {7, 1 << 32, 1<<48 - 2}} {
		sectors := make([]api.Sector, 16)
		for n, gen := range gens {
			l := [][]byte{sloped(384, n), sloped(10, n+10), sloped(200, n+20), nil}
			if n == 1 {
				l = [][]byte{nil, sloped(10, 30), sloped(129, 31), sloped(384, 32)}
			}
			sectors = wantOutliveAll(t, sectors, 0, gen, l)
			if sectors == nil {
				t.Fatal("no head was torn")
			}
		}
	}
}

func TestCrashOverWholeGenerations(t *testing.T) { // P6.4: over four whole records of a lesser generation, of the same bytes
	for _, gens := range [][]uint64{{1, 2}, {256, 257}, {1, 257}, {1<<48 - 2, 1<<48 - 1}} {
		for _, b := range [][]byte{nil, []byte("a"), sloped(129, 1)} {
			d := disk.New(20)
			same := [][]byte{b, b, b, b}
			addAll(t, d, 3, gens[0], same, -1)
			wantOutliveAll(t, stableOf(d), 3, gens[1], same)
		}
	}
}

// someRecords: up to four records, of lengths at the edges or between.
func someRecords(r *rand.Rand) [][]byte {
	l := make([][]byte, r.Intn(5))
	for i := range l {
		n := someLengths[r.Intn(len(someLengths))]
		if r.Intn(2) == 0 {
			n = r.Intn(385)
		}
		l[i] = make([]byte, n)
		if r.Intn(4) > 0 {
			r.Read(l[i])
		}
	}
	return l
}

// crashed crashes a disk in one of the ways that it may.
func crashed(r *rand.Rand, d *disk.Disk) {
	keep := make([]bool, r.Intn(5))
	for i := range keep {
		keep[i] = r.Intn(2) == 0
	}
	d.Crash(keep, r.Intn(5)-1, r.Intn(131)-1)
}

func TestCrashBehindCrash(t *testing.T) { // P6.4: over what crashes of lesser generations left, torn heads too
	r := rand.New(rand.NewSource(6))
	for range 300 {
		first := r.Intn(5)
		d := disk.New(first + 16 + r.Intn(3))
		gen := uint64(r.Intn(300) + 1)
		for range 12 {
			l := someRecords(r)
			kept := addAll(t, d, first, gen, l, r.Intn(25)-1)
			crashed(r, d)
			n := wantOutlived(t, d, first, gen, l, kept)
			crashed(r, d)
			wantScan(t, "behind a crash of nothing", d, first, gen, l[:n]...)
			gen += 1 + uint64(r.Intn(2)*r.Intn(2)*r.Intn(1<<20))
			wantScan(t, "the next generation", d, first, gen)
		}
	}
}

// someDisk: a disk with heads, and bytes of which some are theirs, at whim.
func someDisk(t *testing.T, r *rand.Rand) *disk.Disk {
	t.Helper()
	d := disk.New(20)
	for n := 1; n <= 4; n++ {
		b := sloped(someLengths[r.Intn(len(someLengths))], r.Intn(2))
		for _, s := range stepsByWords(2, uint64(1+r.Intn(10)/9), n, b) {
			if s.flush {
				continue
			}
			if r.Intn(30) == 0 {
				s.text[r.Intn(128)] ^= 1 << r.Intn(8)
			}
			mustWrite(t, d, s.at, s.text)
		}
		if r.Intn(2) == 0 {
			mustFlush(t, d)
		}
	}
	return d
}

func TestScanByWords(t *testing.T) { // P6.3, against a Scan that lays each head again
	r := rand.New(rand.NewSource(66))
	counts := [5]int{}
	for range 4000 {
		d := someDisk(t, r)
		for _, gen := range []uint64{1, 2, 3} {
			told := scanByWords(d, 2, gen)
			wantScan(t, "at whim", d, 2, gen, told...)
			counts[len(told)]++
		}
	}
	if slices.Min(counts[:]) < 20 {
		t.Errorf("the disks hold too little of a kind: %v", counts)
	}
}

func TestAnyArguments(t *testing.T) { // P1: REGIONs that don't lie on the disk, generations that can't be
	firsts := []int{0, 1, 15, 16, 17, 31, 32, -1, -2, -3, -4, -5, -12, -15, -16, -17, 1023, 1024, math.MaxInt, math.MaxInt - 1, math.MaxInt - 3, math.MaxInt - 4, math.MaxInt - 15, math.MinInt, math.MinInt + 1}
	gens := []uint64{0, 1, 1<<48 - 1, 1 << 48, 1<<48 + 1, 1 << 56, math.MaxInt64, math.MaxUint64 - 1, math.MaxUint64}
	for _, sectors := range []int{0, 1, 4, 15, 16, 17, 32} {
		for _, first := range firsts {
			for _, gen := range gens {
				d := disk.New(sectors)
				wantScan(t, "never written", d, first, gen)
				j := Start(d, first, gen)
				for n := range 6 {
					wantErr(t, "Add of too much", j.Add(make([]byte, 385)), api.ErrRecord)
					j.Add(sloped(n*70, n))
					j.Len()
					Scan(d, first, gen)
				}
			}
		}
	}
}

func TestScanAtTheDisksEnd(t *testing.T) { // P6.3, P1: a head whose bytes don't lie on the disk is none
	for _, count := range []int{1, 128, 129, 384} {
		for sectors := 1; sectors <= 4; sectors++ {
			b := make([]byte, count)
			d := disk.New(sectors)
			mustWrite(t, d, 0, headByWords(1, 1, b))
			if (count+127)/128 < sectors {
				wantScan(t, "all bytes are there", d, 0, 1, b)
			} else {
				wantScan(t, "some bytes aren't there", d, 0, 1)
				mustWrite(t, d, 0, sealed(257, bodyOf(count, 0)))
				wantScan(t, "nor are they none, whose sum is 0", d, 0, 1)
			}
		}
	}
}

func TestAnyCallsBehindAnError(t *testing.T) { // P1: of a journal whose disk had no power
	for power := range 7 {
		d := disk.New(16)
		j := Start(d, 0, 1)
		d.Break(power)
		for range 6 {
			j.Add(sloped(384, 1))
			j.Len()
			Scan(d, 0, 1)
		}
		d.Crash(nil, 0, 60)
		for range 6 {
			j.Add(sloped(384, 2))
			j.Len()
			Scan(d, 0, 1)
		}
	}
}

func TestHandedInIsAsItWas(t *testing.T) { // the rule of what is handed in: not changed, spare room included
	for _, n := range append(someLengths, 385) {
		room := sloped(600, n)
		was := bytes.Clone(room)
		d := disk.New(16)
		j := Start(d, 0, 1)
		j.Add(room[:n])
		Scan(d, 0, 1)
		if !bytes.Equal(room, was) {
			t.Errorf("%d bytes: they are changed", n)
		}
	}
}

func TestNothingIsKept(t *testing.T) { // the rule of what is handed in: it may be written over behind the call
	d := disk.New(16)
	j := Start(d, 0, 1)
	b := make([]byte, 384)
	var l [][]byte
	for n := range 4 {
		copy(b, sloped(384, n))
		mustAdd(t, j, b[:384-n])
		l = append(l, sloped(384-n, n))
		copy(b[:384-n], bytes.Repeat([]byte{0}, 384))
		wantScan(t, "written over", d, 0, 1, l...)
	}
	d.Crash(nil, -1, 0)
	wantScan(t, "behind the crash", d, 0, 1, l...)
}

func TestAnswersAreNewMemory(t *testing.T) { // the rule of answers: spare room too, and no two lists share any
	d, l := four(t)
	first, second := Scan(d, 2, 5), Scan(d, 2, 5)
	for n := range first {
		whole := first[n][:cap(first[n])]
		for i := range whole {
			whole[i] ^= 255
		}
		for other := range second {
			if !bytes.Equal(second[other], l[other]) || other > n && !bytes.Equal(first[other], l[other]) {
				t.Errorf("record %d isn't what it was when record %d is changed", other, n)
			}
		}
		_ = append(first[n], sloped(400, 1)...)
	}
	clear(first[:cap(first)])
	wantScan(t, "behind the change", d, 2, 5, l...)
}

func TestAnswersHangOnNothingElse(t *testing.T) { // P2
	a, b := disk.New(16), disk.New(16)
	other := Start(disk.New(16), 0, 9)
	ja, jb := Start(a, 0, 1), Start(b, 0, 1)
	for n := range 5 {
		mustAddOrFull(t, other, sloped(7*n, n))
		wantErr(t, "Add", ja.Add(sloped(90*n, n)), jb.Add(sloped(90*n, n)))
		wantLen(t, ja, jb.Len())
		wantStable(t, a, stableOf(b))
		if !alike(Scan(a, 0, 1), Scan(b, 0, 1)) {
			t.Error("two disks of one history are scanned as two")
		}
	}
}

func mustAddOrFull(t *testing.T, j *Journal, b []byte) {
	t.Helper()
	if err := j.Add(b); err != api.OK && (err != api.ErrFull || j.Len() != 4) {
		t.Errorf("Add answers %d, of %d records", err, j.Len())
	}
}
