package disk

import (
	"math"
	"math/rand"
	"slices"
	"testing"

	"bailey/api"
)

// nowhere: numbers of sectors that a disk of n sectors doesn't have.
func nowhere(n int) []int {
	return []int{n, n + 1, n + 128, 1 << 32, 1<<32 + 1, math.MaxInt - 1, math.MaxInt, -1, -2, -n, -n - 1, -1 << 32, math.MinInt + 1, math.MinInt}
}

// full: a sector whose bytes are all x.
func full(x byte) (s api.Sector) {
	for i := range s {
		s[i] = x
	}
	return s
}

// sloped: a sector whose bytes all differ, and differ from those of the others of its kind.
func sloped(x byte) (s api.Sector) {
	for i := range s {
		s[i] = x + 2*byte(i) + 1
	}
	return s
}

// over: the first cut bytes of top, the others of under.
func over(top, under api.Sector, cut int) api.Sector {
	for i := range cut {
		under[i] = top[i]
	}
	return under
}

func wantErr(t *testing.T, what string, got, want api.Errno) {
	t.Helper()
	if got != want {
		t.Errorf("%s answers %d, not %d", what, got, want)
	}
}

func mustWrite(t *testing.T, d *Disk, i int, s api.Sector) {
	t.Helper()
	wantErr(t, "Write", d.Write(i, s), api.OK)
}

func mustFlush(t *testing.T, d *Disk) {
	t.Helper()
	wantErr(t, "Flush", d.Flush(), api.OK)
}

func wantRead(t *testing.T, d *Disk, i int, want api.Sector) {
	t.Helper()
	got, err := d.Read(i)
	if got != want || err != api.OK {
		t.Errorf("Read(%d) = %v, %d, not %v", i, got, err, want)
	}
}

func wantStable(t *testing.T, d *Disk, i int, want api.Sector) {
	t.Helper()
	if got := d.Stable(i); got != want {
		t.Errorf("Stable(%d) = %v, not %v", i, got, want)
	}
}

func wantPending(t *testing.T, d *Disk, want ...int) {
	t.Helper()
	if got := d.Pending(); !slices.Equal(got, want) {
		t.Errorf("Pending() = %v, not %v", got, want)
	}
}

func wantDead(t *testing.T, d *Disk, want bool) {
	t.Helper()
	if got := d.Dead(); got != want {
		t.Errorf("Dead() = %v", got)
	}
}

func TestExample(t *testing.T) { // P4.4
	for _, second := range []int{0, 1} {
		d := New(2)
		mustWrite(t, d, 0, full(1))
		mustWrite(t, d, second, full(2))
		d.Crash([]bool{false, true}, -1, 0)
		wantStable(t, d, second, full(2))
		wantRead(t, d, second, full(2))
		wantStable(t, d, 1-second, full(0))
		wantRead(t, d, 1-second, full(0))
	}
}

func TestNew(t *testing.T) { // P4.1
	for _, k := range []struct{ sectors, want int }{
		{math.MinInt, 0}, {-1 << 32, 0}, {-1024, 0}, {-2, 0}, {-1, 0},
		{0, 0}, {1, 1}, {2, 2}, {127, 127}, {128, 128}, {1023, 1023}, {1024, 1024},
		{1025, 1024}, {2048, 1024}, {1 << 32, 1024}, {1<<32 + 5, 1024}, {math.MaxInt, 1024},
	} {
		d := New(k.sectors)
		if got := d.Len(); got != k.want {
			t.Errorf("New(%d).Len() = %d, not %d", k.sectors, got, k.want)
		}
		for i := range k.want {
			wantStable(t, d, i, api.Sector{})
			wantRead(t, d, i, api.Sector{})
		}
		wantPending(t, d)
		wantDead(t, d, false)
	}
}

func TestNewHasPowerForGood(t *testing.T) { // P4.1, P4.3
	d := New(1)
	for n := range 3000 {
		mustWrite(t, d, 0, full(byte(n)))
		if n%3 == 0 {
			mustFlush(t, d)
		}
	}
	wantDead(t, d, false)
}

func TestEdgesOfLen(t *testing.T) { // P4.1, P4.2
	for _, n := range []int{1, 2, 1024} {
		d := New(n)
		mustWrite(t, d, n-1, sloped(1))
		mustWrite(t, d, 0, sloped(2))
		mustFlush(t, d)
		wantStable(t, d, 0, sloped(2))
		if n > 1 {
			wantStable(t, d, n-1, sloped(1))
		}
		if d.Len() != n {
			t.Errorf("Len() = %d, not %d", d.Len(), n)
		}
	}
}

func TestSectorsThatArentThere(t *testing.T) { // P4.1, P4.2
	for _, n := range []int{0, 1, 3, 1024, 5000} {
		d := New(n)
		for i := range min(n, 1024) {
			mustWrite(t, d, i, full(9))
		}
		mustFlush(t, d)
		for _, i := range nowhere(max(1, d.Len())) {
			wantStable(t, d, i, api.Sector{})
			if s, err := d.Read(i); s != (api.Sector{}) || err != api.ErrSector {
				t.Errorf("Read(%d) of %d sectors = %v, %d", i, n, s, err)
			}
			wantErr(t, "Write to nowhere", d.Write(i, full(7)), api.ErrSector)
			wantPending(t, d)
		}
		mustFlush(t, d)
		for i := range d.Len() {
			wantStable(t, d, i, full(9))
		}
		wantDead(t, d, false)
	}
}

func TestDiskOfNoSectors(t *testing.T) { // P4.1 to P4.4
	for _, n := range []int{0, -1, math.MinInt} {
		d := New(n)
		if s, err := d.Read(0); s != (api.Sector{}) || err != api.ErrSector {
			t.Errorf("Read(0) = %v, %d", s, err)
		}
		wantErr(t, "Write(0)", d.Write(0, full(1)), api.ErrSector)
		wantStable(t, d, 0, api.Sector{})
		mustFlush(t, d)
		d.Break(0)
		wantErr(t, "Write(0)", d.Write(0, full(1)), api.ErrSector)
		wantDead(t, d, false)
		wantErr(t, "Flush", d.Flush(), api.ErrPower)
		wantDead(t, d, true)
		d.Crash([]bool{true}, 0, 128)
		wantDead(t, d, false)
		mustFlush(t, d)
		wantPending(t, d)
	}
}

func TestEachDiskByItself(t *testing.T) { // P2
	a, b := New(2), New(2)
	mustWrite(t, a, 0, full(1))
	wantRead(t, b, 0, full(0))
	wantPending(t, b)
	mustFlush(t, a)
	wantStable(t, b, 0, full(0))
	a.Break(0)
	mustFlush(t, b)
	wantErr(t, "Flush", a.Flush(), api.ErrPower)
	wantDead(t, b, false)
	mustFlush(t, b)
}

func TestWritesOfOneSector(t *testing.T) { // P4.1, P4.2
	d := New(3)
	mustWrite(t, d, 1, sloped(1))
	wantRead(t, d, 1, sloped(1))
	wantStable(t, d, 1, full(0))
	wantPending(t, d, 1)
	mustWrite(t, d, 1, sloped(2))
	mustWrite(t, d, 2, sloped(3))
	mustWrite(t, d, 1, sloped(4))
	mustWrite(t, d, 0, sloped(5))
	wantPending(t, d, 1, 1, 2, 1, 0)
	wantRead(t, d, 0, sloped(5))
	wantRead(t, d, 1, sloped(4))
	wantRead(t, d, 2, sloped(3))
	for i := range 3 {
		wantStable(t, d, i, full(0))
	}
	mustFlush(t, d)
	wantPending(t, d)
	for i, x := range []byte{5, 4, 3} {
		wantRead(t, d, i, sloped(x))
		wantStable(t, d, i, sloped(x))
	}
	mustWrite(t, d, 1, sloped(6))
	wantRead(t, d, 1, sloped(6))
	wantStable(t, d, 1, sloped(4))
	wantPending(t, d, 1)
	mustFlush(t, d)
	wantStable(t, d, 1, sloped(6))
}

func TestWriteOfWhatIsThereAlready(t *testing.T) { // P4.2
	d := New(1)
	mustWrite(t, d, 0, full(0))
	wantPending(t, d, 0)
	mustWrite(t, d, 0, full(0))
	wantPending(t, d, 0, 0)
}

func TestFlushOfNothing(t *testing.T) { // P4.2
	d := New(2)
	mustFlush(t, d)
	mustWrite(t, d, 1, full(1))
	mustFlush(t, d)
	mustFlush(t, d)
	wantStable(t, d, 0, full(0))
	wantStable(t, d, 1, full(1))
	wantPending(t, d)
}

func TestManyPending(t *testing.T) { // P4.1, P4.2
	d := New(1024)
	var order []int
	var last [1024]api.Sector
	for n := range 5000 {
		i := n * 7 % 1024
		last[i] = sloped(byte(n / 1024))
		mustWrite(t, d, i, last[i])
		order = append(order, i)
	}
	wantPending(t, d, order...)
	for i, want := range last {
		wantRead(t, d, i, want)
		wantStable(t, d, i, full(0))
	}
	mustFlush(t, d)
	wantPending(t, d)
	for i, want := range last {
		wantStable(t, d, i, want)
	}
}

func TestBreakLetsSoManyThrough(t *testing.T) { // P4.3
	for _, n := range []int{0, 1, 2, 3, 10, 300} {
		for flushes := range 4 {
			d := New(2)
			mustWrite(t, d, 1, full(8))
			d.Break(n)
			for k := range n {
				if k%4 < flushes {
					mustFlush(t, d)
				} else {
					mustWrite(t, d, 0, full(byte(k)))
				}
				wantDead(t, d, false)
			}
			was, pending := d.Stable(0), d.Pending()
			read, _ := d.Read(0)
			wantDead(t, d, false)
			if flushes%2 == 0 {
				wantErr(t, "the last Write", d.Write(0, full(255)), api.ErrPower)
			} else {
				wantErr(t, "the last Flush", d.Flush(), api.ErrPower)
			}
			wantDead(t, d, true)
			wantStable(t, d, 0, was)
			wantRead(t, d, 0, read)
			wantPending(t, d, pending...)
			wantGoneForGood(t, d)
		}
	}
}

// wantGoneForGood: nothing is done any more, and nothing changes.
func wantGoneForGood(t *testing.T, d *Disk) {
	t.Helper()
	pending := d.Pending()
	var stable, read []api.Sector
	for i := range d.Len() {
		s, _ := d.Read(i)
		stable, read = append(stable, d.Stable(i)), append(read, s)
	}
	for range 3 {
		wantErr(t, "Write without power", d.Write(0, full(99)), api.ErrPower)
		wantErr(t, "Flush without power", d.Flush(), api.ErrPower)
		wantErr(t, "Write to nowhere without power", d.Write(-1, full(99)), api.ErrSector)
		wantErr(t, "Write to nowhere without power", d.Write(d.Len(), full(99)), api.ErrSector)
		if s, err := d.Read(d.Len()); s != (api.Sector{}) || err != api.ErrSector {
			t.Errorf("Read of nowhere without power = %v, %d", s, err)
		}
		wantDead(t, d, true)
	}
	for i := range d.Len() {
		wantStable(t, d, i, stable[i])
		wantRead(t, d, i, read[i])
	}
	wantPending(t, d, pending...)
}

func TestBreakWithoutLimit(t *testing.T) { // P4.3
	for _, n := range []int{-1, -2, -1 << 32, math.MinInt, math.MaxInt} {
		for _, ahead := range []int{0, 1, 5} {
			d := New(1)
			d.Break(ahead)
			d.Break(n)
			for range 1000 {
				mustWrite(t, d, 0, full(1))
				mustFlush(t, d)
			}
			wantDead(t, d, false)
		}
	}
}

func TestBreakAnew(t *testing.T) { // P4.3
	for _, k := range []struct{ first, used, second int }{{0, 0, 2}, {5, 3, 1}, {5, 5, 1}, {5, 3, 0}, {-1, 4, 2}, {1, 0, 1}, {3, 1, 7}} {
		d := New(1)
		d.Break(k.first)
		for range k.used {
			mustFlush(t, d)
		}
		d.Break(k.second)
		for range k.second {
			mustWrite(t, d, 0, full(1))
		}
		wantDead(t, d, false)
		wantErr(t, "Write", d.Write(0, full(2)), api.ErrPower)
		wantDead(t, d, true)
	}
}

func TestBreakCountsOnlyWhatCouldBeDone(t *testing.T) { // P4.3
	d := New(3)
	d.Break(2)
	askAll := func() {
		for _, i := range nowhere(3) {
			wantErr(t, "Write to nowhere", d.Write(i, full(1)), api.ErrSector)
			d.Read(i)
			d.Stable(i)
		}
		d.Read(0)
		d.Stable(0)
		d.Pending()
		d.Len()
		wantDead(t, d, false)
	}
	askAll()
	mustWrite(t, d, 2, full(1))
	askAll()
	mustFlush(t, d)
	askAll()
	wantErr(t, "Write", d.Write(2, full(2)), api.ErrPower)
	wantGoneForGood(t, d)
	wantRead(t, d, 2, full(1))
}

func TestFlushOfNothingIsCounted(t *testing.T) { // P4.3
	d := New(1)
	d.Break(1)
	mustFlush(t, d)
	wantErr(t, "Flush", d.Flush(), api.ErrPower)
	wantDead(t, d, true)
}

func TestReadWithoutPower(t *testing.T) { // P4.2
	d := New(3)
	mustWrite(t, d, 0, sloped(1))
	mustFlush(t, d)
	mustWrite(t, d, 0, sloped(2))
	mustWrite(t, d, 1, sloped(3))
	d.Break(0)
	wantErr(t, "Flush", d.Flush(), api.ErrPower)
	wantRead(t, d, 0, sloped(2))
	wantRead(t, d, 1, sloped(3))
	wantRead(t, d, 2, full(0))
	wantStable(t, d, 0, sloped(1))
	wantStable(t, d, 1, full(0))
	wantPending(t, d, 0, 1)
}

func TestBreakWhenThePowerIsGone(t *testing.T) { // P4.3
	for _, n := range []int{-1, math.MinInt, 0, 1, 5, math.MaxInt} {
		d := New(1)
		mustWrite(t, d, 0, full(1))
		d.Break(0)
		wantErr(t, "Write", d.Write(0, full(2)), api.ErrPower)
		d.Break(n)
		wantGoneForGood(t, d)
		d.Break(-1)
		wantGoneForGood(t, d)
		d.Break(n)
		d.Crash(nil, -1, 0)
		wantDead(t, d, false)
		for range 20 {
			mustWrite(t, d, 0, full(3))
			mustFlush(t, d)
		}
	}
}

// crashed: a disk of one sector of 100 and one of 200, with the pending writes of 1, 2 and so on, behind a crash.
func crashed(t *testing.T, at []int, keep []bool, torn, cut int) *Disk {
	t.Helper()
	d := New(2)
	mustWrite(t, d, 0, sloped(100))
	mustWrite(t, d, 1, sloped(200))
	mustFlush(t, d)
	for n, i := range at {
		mustWrite(t, d, i, sloped(byte(2*n+2)))
	}
	d.Crash(keep, torn, cut)
	wantPending(t, d)
	wantDead(t, d, false)
	return d
}

// wantCrashed: a crash leaves first and second in the two sectors.
func wantCrashed(t *testing.T, at []int, keep []bool, torn, cut int, first, second api.Sector) {
	t.Helper()
	d := crashed(t, at, keep, torn, cut)
	for i, want := range []api.Sector{first, second} {
		wantStable(t, d, i, want)
		wantRead(t, d, i, want)
	}
}

func TestCrashWithKeepOfAllLengths(t *testing.T) { // P4.4
	at := []int{0, 1}
	old, other, new1, new2 := sloped(100), sloped(200), sloped(2), sloped(4)
	wantCrashed(t, at, nil, -1, 0, old, other)
	wantCrashed(t, at, []bool{}, -1, 0, old, other)
	wantCrashed(t, at, []bool{false}, -1, 0, old, other)
	wantCrashed(t, at, []bool{true}, -1, 0, new1, other)
	wantCrashed(t, at, []bool{false, true}, -1, 0, old, new2)
	wantCrashed(t, at, []bool{true, false}, -1, 0, new1, other)
	wantCrashed(t, at, []bool{true, true}, -1, 0, new1, new2)
	wantCrashed(t, at, []bool{true, true, true, true, true}, -1, 0, new1, new2)
	wantCrashed(t, at, []bool{false, false, true, true}, -1, 0, old, other)
	wantCrashed(t, at, slices.Repeat([]bool{true}, 5000), -1, 0, new1, new2)
	wantCrashed(t, nil, []bool{true, true}, 0, 128, old, other)
	wantCrashed(t, nil, nil, -1, 0, old, other)
}

func TestCrashLooksAtNoSpareRoomOfKeep(t *testing.T) { // P4.4
	room := []bool{false, true, true, true}
	wantCrashed(t, []int{0, 1}, room[:1], -1, 0, sloped(100), sloped(200))
}

func TestCrashTornAtEachNumber(t *testing.T) { // P4.4
	at := []int{0, 1}
	old, other, new1, new2 := sloped(100), sloped(200), sloped(2), sloped(4)
	for _, b := range []bool{false, true} {
		wantCrashed(t, at, []bool{b, false}, 0, 5, over(new1, old, 5), other)
		wantCrashed(t, at, []bool{b, true}, 0, 5, over(new1, old, 5), new2)
		wantCrashed(t, at, []bool{false, b}, 1, 5, old, over(new2, other, 5))
		wantCrashed(t, at, []bool{true, b}, 1, 5, new1, over(new2, other, 5))
	}
	wantCrashed(t, at, nil, 0, 5, over(new1, old, 5), other)
	wantCrashed(t, at, nil, 1, 5, old, over(new2, other, 5))
	wantCrashed(t, at, []bool{true}, 1, 5, new1, over(new2, other, 5))
	for _, torn := range nowhere(2) {
		wantCrashed(t, at, nil, torn, 5, old, other)
		wantCrashed(t, at, []bool{true, false}, torn, 128, new1, other)
		wantCrashed(t, at, []bool{true, true, true}, torn, 0, new1, new2)
	}
}

func TestCrashCut(t *testing.T) { // P4.4
	at := []int{0}
	old, other, new1 := sloped(100), sloped(200), sloped(2)
	for _, keep := range [][]bool{nil, {false}, {true}} {
		for cut := range 129 {
			wantCrashed(t, at, keep, 0, cut, over(new1, old, cut), other)
		}
		for _, cut := range []int{-1, -2, -128, -1 << 32, math.MinInt} {
			wantCrashed(t, at, keep, 0, cut, old, other)
		}
		for _, cut := range []int{129, 256, 1 << 32, 1<<32 + 3, math.MaxInt} {
			wantCrashed(t, at, keep, 0, cut, new1, other)
		}
	}
}

func TestCrashOfSeveralWritesToOneSector(t *testing.T) { // P4.4
	at := []int{0, 0, 0}
	old, other, new1, new2, new3 := sloped(100), sloped(200), sloped(2), sloped(4), sloped(6)
	wantCrashed(t, at, []bool{true, true, true}, -1, 0, new3, other)
	wantCrashed(t, at, []bool{true, true, false}, -1, 0, new2, other)
	wantCrashed(t, at, []bool{true, false, false}, -1, 0, new1, other)
	wantCrashed(t, at, []bool{false, true, false}, -1, 0, new2, other)
	wantCrashed(t, at, []bool{false, false, true}, -1, 0, new3, other)
	wantCrashed(t, at, []bool{true, true, true}, 2, 7, over(new3, new2, 7), other)
	wantCrashed(t, at, []bool{true, true, true}, 2, 0, new2, other)
	wantCrashed(t, at, []bool{true, true, true}, 1, 7, new3, other)
	wantCrashed(t, at, []bool{true, true, false}, 1, 7, over(new2, new1, 7), other)
	wantCrashed(t, at, []bool{false, true, false}, 1, 7, over(new2, old, 7), other)
	wantCrashed(t, at, []bool{false, true, false}, 0, 7, new2, other)
	wantCrashed(t, at, nil, 0, 7, over(new1, old, 7), other)
	wantCrashed(t, []int{0, 1, 0}, []bool{true, true, true}, 2, 5, over(new3, new1, 5), new2)
	wantCrashed(t, []int{0, 1, 0}, []bool{true, true, true}, 0, 5, new3, new2)
}

func TestCrashOfWhatIsFlushed(t *testing.T) { // P4.2, P4.4
	d := New(1)
	mustWrite(t, d, 0, full(1))
	mustFlush(t, d)
	d.Crash(nil, 0, 0)
	wantStable(t, d, 0, full(1))
	d.Crash([]bool{true}, 0, 128)
	wantStable(t, d, 0, full(1))
}

func TestWritesBehindACrashAreNumberedAnew(t *testing.T) { // P4.4
	d := New(2)
	mustWrite(t, d, 0, full(1))
	mustWrite(t, d, 0, full(2))
	d.Crash(nil, -1, 0)
	mustWrite(t, d, 1, full(3))
	wantPending(t, d, 1)
	d.Crash([]bool{true}, 1, 0)
	wantStable(t, d, 0, full(0))
	wantStable(t, d, 1, full(3))
}

func TestCrashBringsThePowerBack(t *testing.T) { // P4.4
	d := New(1)
	mustWrite(t, d, 0, sloped(1))
	d.Break(0)
	wantErr(t, "Flush", d.Flush(), api.ErrPower)
	d.Crash([]bool{true}, -1, 0)
	wantDead(t, d, false)
	wantPending(t, d)
	wantStable(t, d, 0, sloped(1))
	for range 50 {
		mustWrite(t, d, 0, sloped(2))
		mustFlush(t, d)
	}
	wantStable(t, d, 0, sloped(2))
}

func TestCrashEndsABreak(t *testing.T) { // P4.4
	for _, n := range []int{0, 1, 3} {
		d := New(1)
		d.Break(n)
		d.Crash(nil, 0, 0)
		for range 50 {
			mustWrite(t, d, 0, full(1))
			mustFlush(t, d)
		}
		wantDead(t, d, false)
		d.Break(1)
		mustFlush(t, d)
		wantErr(t, "Write", d.Write(0, full(2)), api.ErrPower)
		wantDead(t, d, true)
	}
}

func TestHandedInIsAsItWas(t *testing.T) { // the rules that hold everywhere
	d := New(2)
	s := sloped(1)
	mustWrite(t, d, 0, s)
	s[0], s[127] = 77, 78
	wantRead(t, d, 0, sloped(1))
	mustWrite(t, d, 1, sloped(2))
	room := []bool{true, false, true, false, true}
	keep := room[1:3]
	d.Crash(keep, 0, 3)
	if !slices.Equal(room, []bool{true, false, true, false, true}) {
		t.Errorf("keep is %v now", room)
	}
	want := over(sloped(1), full(0), 3)
	wantStable(t, d, 0, want)
	clear(room)
	wantStable(t, d, 0, want)
	wantStable(t, d, 1, sloped(2))
	mustWrite(t, d, 0, sloped(3))
	d.Crash([]bool{true}, -1, 0)
	wantStable(t, d, 0, sloped(3))
}

func TestAnswersAreNewMemory(t *testing.T) { // the rules that hold everywhere
	d := New(3)
	mustWrite(t, d, 0, sloped(1))
	mustWrite(t, d, 1, sloped(2))
	first := d.Pending()
	second := d.Pending()
	mustWrite(t, d, 2, sloped(3))
	if !slices.Equal(first, []int{0, 1}) {
		t.Errorf("what was answered is %v now", first)
	}
	room := first[:cap(first)]
	for i := range room {
		room[i] = 9
	}
	_ = append(first, 8, 8, 8)
	if !slices.Equal(second, []int{0, 1}) {
		t.Errorf("another answer is %v now", second)
	}
	wantPending(t, d, 0, 1, 2)
	wantRead(t, d, 0, sloped(1))
	third := d.Pending()
	mustFlush(t, d)
	mustWrite(t, d, 2, sloped(4))
	if !slices.Equal(third, []int{0, 1, 2}) {
		t.Errorf("what was answered is %v behind a Flush", third)
	}
	d.Crash([]bool{true}, -1, 0)
	mustWrite(t, d, 1, sloped(5))
	if !slices.Equal(third, []int{0, 1, 2}) {
		t.Errorf("what was answered is %v behind a Crash", third)
	}
	s := d.Stable(2)
	s[0]++
	r, _ := d.Read(1)
	r[0]++
	wantStable(t, d, 2, sloped(4))
	wantRead(t, d, 1, sloped(5))
}

// told is a disk as the chapter's words tell it: each byte by itself, each sector with its own list of pending writes.
type told struct {
	stable [][]byte
	writes map[int][]numbered
	order  []int
	broken bool
	more   int
	dead   bool
}

type numbered struct {
	number int
	text   api.Sector
}

func newTold(n int) *told {
	m := &told{writes: map[int][]numbered{}}
	for range n {
		m.stable = append(m.stable, make([]byte, 128))
	}
	return m
}

func (m *told) there(i int) bool { return 0 <= i && i < len(m.stable) }

func (m *told) refused() bool {
	if !m.dead && m.broken && m.more == 0 {
		m.dead = true
	}
	if !m.dead && m.broken {
		m.more--
	}
	return m.dead
}

func (m *told) write(i int, s api.Sector) api.Errno {
	if !m.there(i) {
		return api.ErrSector
	}
	if m.refused() {
		return api.ErrPower
	}
	m.writes[i] = append(m.writes[i], numbered{len(m.order), s})
	m.order = append(m.order, i)
	return api.OK
}

func (m *told) settle(bytesOf func(number int) int) {
	for i, list := range m.writes {
		for _, w := range list {
			for b := range bytesOf(w.number) {
				m.stable[i][b] = w.text[b]
			}
		}
	}
	m.writes, m.order = map[int][]numbered{}, nil
}

func (m *told) flush() api.Errno {
	if m.refused() {
		return api.ErrPower
	}
	m.settle(func(int) int { return 128 })
	return api.OK
}

func (m *told) crash(keep []bool, torn, cut int) {
	m.settle(func(number int) int {
		switch {
		case number == torn && cut < 0:
			return 0
		case number == torn && cut <= 128:
			return cut
		case number == torn:
			return 128
		case number >= len(keep) || !keep[number]:
			return 0
		}
		return 128
	})
	m.broken, m.dead = false, false
}

func (m *told) compare(t *testing.T, d *Disk) {
	t.Helper()
	wantPending(t, d, m.order...)
	wantDead(t, d, m.dead)
	for i, s := range m.stable {
		wantStable(t, d, i, api.Sector(s))
		want := api.Sector(s)
		if list := m.writes[i]; len(list) > 0 {
			want = list[len(list)-1].text
		}
		wantRead(t, d, i, want)
	}
}

func TestManyDeeds(t *testing.T) { // P4.1 to P4.4
	r := rand.New(rand.NewSource(4))
	for range 300 {
		n := r.Intn(4)
		d, m := New(n), newTold(n)
		for range 60 {
			switch r.Intn(10) {
			case 0, 1, 2, 3, 4, 5:
				i := r.Intn(n+2) - 1
				s := sloped(byte(r.Intn(256)))
				wantErr(t, "Write", d.Write(i, s), m.write(i, s))
			case 6, 7:
				wantErr(t, "Flush", d.Flush(), m.flush())
			case 8:
				k := r.Intn(6) - 1
				d.Break(k)
				m.broken, m.more = k >= 0, k
			case 9:
				keep := make([]bool, r.Intn(6))
				for i := range keep {
					keep[i] = r.Intn(2) == 0
				}
				torn, cut := r.Intn(7)-1, r.Intn(140)-6
				d.Crash(keep, torn, cut)
				m.crash(keep, torn, cut)
			}
			m.compare(t, d)
		}
		if t.Failed() {
			return
		}
	}
}

func TestOneHistoryOneAnswer(t *testing.T) { // P2
	tell := func() (list []api.Sector) {
		d := New(3)
		for n := range 40 {
			d.Write(n%4, sloped(byte(n)))
			if n%5 == 0 {
				d.Flush()
			}
			if n%9 == 0 {
				d.Crash([]bool{true, false, true}, n%3, n)
			}
			s, _ := d.Read(n % 3)
			list = append(list, s, d.Stable(n%3))
		}
		return list
	}
	first := tell()
	for range 3 {
		if !slices.Equal(tell(), first) {
			t.Error("one history, two answers")
		}
	}
}
