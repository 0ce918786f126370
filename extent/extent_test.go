package extent

import (
	"math"
	"math/rand"
	"slices"
	"strings"
	"testing"

	"bailey/api"
)

// A plain model of a Map is a picture: one letter a sector.
const (
	isFree  = 'f'
	isTaken = 't'
	isLater = 'l'
)

func at(start, n int) api.Extent { return api.Extent{Start: start, Len: n} }

// drawn: a map that is as a picture tells, made sector by sector.
func drawn(t *testing.T, picture string) *Map {
	t.Helper()
	m := New(len(picture))
	for i, c := range picture {
		if c != isFree {
			wantErr(t, "Take", m.Take(at(i, 1)), api.OK)
		}
		if c == isLater {
			wantErr(t, "Later", m.Later(at(i, 1)), api.OK)
		}
	}
	return m
}

// pictures: all pictures of n sectors.
func pictures(n int) []string {
	if n == 0 {
		return []string{""}
	}
	var all []string
	for _, p := range pictures(n - 1) {
		all = append(all, p+string(isFree), p+string(isTaken), p+string(isLater))
	}
	return all
}

// isAll: are n sectors from start on there, and all of a letter?
func isAll(picture string, start, n int, c rune) bool {
	if start < 0 || start >= len(picture) || n < 1 || n > len(picture)-start {
		return false
	}
	return strings.Count(picture[start:start+n], string(c)) == n
}

// extentsByWords: of all extents those of one letter that couldn't be longer.
func extentsByWords(picture string, c rune) []api.Extent {
	var l []api.Extent
	for start := range len(picture) {
		if isAll(picture, start-1, 1, c) {
			continue
		}
		n := 0
		for isAll(picture, start, n+1, c) {
			n++
		}
		if n > 0 {
			l = append(l, at(start, n))
		}
	}
	return l
}

// with: the picture with one letter on an extent that is there.
func with(picture string, e api.Extent, c rune) string {
	return picture[:e.Start] + strings.Repeat(string(c), e.Len) + picture[e.Start+e.Len:]
}

// allocByWords: what Alloc answers, and the picture behind it.
func allocByWords(picture string, n int) (api.Extent, api.Errno, string) {
	if n < 1 {
		return api.Extent{}, api.ErrExtent, picture
	}
	list := extentsByWords(picture, isFree)
	if len(list) == 0 {
		return api.Extent{}, api.ErrSpace, picture
	}
	if i := slices.IndexFunc(list, func(e api.Extent) bool { return e.Len >= n }); i >= 0 {
		e := at(list[i].Start, n)
		return e, api.OK, with(picture, e, isTaken)
	}
	// The sort is a stable one: of those that are equally long the first stays ahead.
	slices.SortStableFunc(list, func(a, b api.Extent) int { return b.Len - a.Len })
	return list[0], api.OK, with(picture, list[0], isTaken)
}

// allByWords: what All answers, and the picture behind it.
func allByWords(picture string, n int) ([]api.Extent, api.Errno, string) {
	if n > strings.Count(picture, string(isFree)) {
		return nil, api.ErrSpace, picture
	}
	var l []api.Extent
	for n >= 1 {
		var e api.Extent
		e, _, picture = allocByWords(picture, n)
		l = append(l, e)
		n -= e.Len
	}
	return l, api.OK, picture
}

// turnByWords: what Take, Free and Later answer, and the picture behind them.
func turnByWords(picture string, e api.Extent, from, to rune) (api.Errno, string) {
	if !isAll(picture, e.Start, e.Len, from) {
		return api.ErrExtent, picture
	}
	return api.OK, with(picture, e, to)
}

// turns: Take, Free and Later with the letters that they ask for and leave.
var turns = []struct {
	name     string
	do       func(*Map, api.Extent) api.Errno
	from, to rune
}{
	{"Take", (*Map).Take, isFree, isTaken},
	{"Free", (*Map).Free, isTaken, isFree},
	{"Later", (*Map).Later, isTaken, isLater},
}

func wantErr(t *testing.T, what string, got, want api.Errno) {
	t.Helper()
	if got != want {
		t.Errorf("%s answers %d, not %d", what, got, want)
	}
}

// wantMap holds all that a map tells of itself against a picture.
func wantMap(t *testing.T, what string, m *Map, picture string) {
	t.Helper()
	if got, want := m.List(), extentsByWords(picture, isFree); !slices.Equal(got, want) {
		t.Fatalf("%s: List() = %v, not %v", what, got, want)
	}
	if got, want := m.Waiting(), extentsByWords(picture, isLater); !slices.Equal(got, want) {
		t.Fatalf("%s: Waiting() = %v, not %v", what, got, want)
	}
	if got, want := m.Count(), strings.Count(picture, string(isFree)); got != want {
		t.Fatalf("%s: Count() = %d, not %d", what, got, want)
	}
}

// wantTaken asks whether all sectors that a picture tells as TAKEN are, by freeing them; they are taken again then.
func wantTaken(t *testing.T, what string, m *Map, picture string) {
	t.Helper()
	for _, e := range extentsByWords(picture, isTaken) {
		wantErr(t, what+": Free", m.Free(e), api.OK)
		wantErr(t, what+": Take", m.Take(e), api.OK)
	}
}

// wantAlloc: one Alloc, held against the picture; what is the picture behind it?
func wantAlloc(t *testing.T, m *Map, picture string, n int) string {
	t.Helper()
	want, wantErrno, behind := allocByWords(picture, n)
	got, err := m.Alloc(n)
	if got != want || err != wantErrno {
		t.Fatalf("of %s: Alloc(%d) = %v, %d, not %v, %d", picture, n, got, err, want, wantErrno)
	}
	wantMap(t, "behind Alloc of "+picture, m, behind)
	return behind
}

// wantAll: one All, held against the picture; what is the picture behind it?
func wantAll(t *testing.T, m *Map, picture string, n int) string {
	t.Helper()
	want, wantErrno, behind := allByWords(picture, n)
	got, err := m.All(n)
	if !slices.Equal(got, want) || err != wantErrno {
		t.Fatalf("of %s: All(%d) = %v, %d, not %v, %d", picture, n, got, err, want, wantErrno)
	}
	wantMap(t, "behind All of "+picture, m, behind)
	return behind
}

// wantTurn: one Take, Free or Later, held against the picture; what is the picture behind it?
func wantTurn(t *testing.T, m *Map, picture string, which int, e api.Extent) string {
	t.Helper()
	k := turns[which]
	want, behind := turnByWords(picture, e, k.from, k.to)
	if got := k.do(m, e); got != want {
		t.Fatalf("of %s: %s(%v) = %d, not %d", picture, k.name, e, got, want)
	}
	wantMap(t, "behind "+k.name+" of "+picture, m, behind)
	return behind
}

// wantCommit: one Commit; what is the picture behind it?
func wantCommit(t *testing.T, m *Map, picture string) string {
	t.Helper()
	m.Commit()
	behind := strings.ReplaceAll(picture, string(isLater), string(isFree))
	wantMap(t, "behind Commit of "+picture, m, behind)
	return behind
}

func TestExample(t *testing.T) { // P7.1, P7.2, P7.3
	m := New(10)
	first, err := m.Alloc(4)
	if first != at(0, 4) || err != api.OK {
		t.Errorf("Alloc(4) = %v, %d", first, err)
	}
	if e, err := m.Alloc(4); e != at(4, 4) || err != api.OK {
		t.Errorf("Alloc(4) = %v, %d", e, err)
	}
	wantErr(t, "Free", m.Free(first), api.OK)
	if l := m.List(); !slices.Equal(l, []api.Extent{at(0, 4), at(8, 2)}) {
		t.Errorf("List() = %v", l)
	}
	if e, err := m.Alloc(5); e != at(0, 4) || err != api.OK {
		t.Errorf("Alloc(5) = %v, %d", e, err)
	}
	if l := m.List(); !slices.Equal(l, []api.Extent{at(8, 2)}) {
		t.Errorf("List() = %v", l)
	}
}

func TestNew(t *testing.T) { // P7.1
	for _, k := range []struct{ total, want int }{
		{math.MinInt, 0}, {math.MinInt + 1, 0}, {-1 << 32, 0}, {-1024, 0}, {-2, 0}, {-1, 0},
		{0, 0}, {1, 1}, {2, 2}, {3, 3}, {511, 511}, {1022, 1022}, {1023, 1023}, {1024, 1024},
		{1025, 1024}, {2048, 1024}, {1 << 32, 1024}, {1<<32 + 5, 1024}, {math.MaxInt - 1, 1024}, {math.MaxInt, 1024},
	} {
		m := New(k.total)
		var want []api.Extent
		if k.want > 0 {
			want = []api.Extent{at(0, k.want)}
		}
		if got := m.List(); !slices.Equal(got, want) {
			t.Errorf("New(%d).List() = %v, not %v", k.total, got, want)
		}
		if got := m.Waiting(); len(got) != 0 {
			t.Errorf("New(%d).Waiting() = %v", k.total, got)
		}
		if got := m.Count(); got != k.want {
			t.Errorf("New(%d).Count() = %d, not %d", k.total, got, k.want)
		}
		wantErr(t, "Take of the sector behind the last", m.Take(at(k.want, 1)), api.ErrExtent)
		if k.want > 0 {
			wantErr(t, "Take of the last sector", m.Take(at(k.want-1, 1)), api.OK)
		}
	}
}

func TestMapsOfNoSectors(t *testing.T) { // P7.1, P7.2, P7.3
	for _, total := range []int{0, -1, math.MinInt} {
		m := New(total)
		for _, n := range []int{math.MinInt, -1, 0, 1, 2, math.MaxInt} {
			wantAlloc(t, m, "", n)
			wantAll(t, m, "", n)
			for which := range turns {
				wantTurn(t, m, "", which, at(0, n))
				wantTurn(t, m, "", which, at(n, 1))
			}
		}
		wantCommit(t, m, "")
	}
}

func TestListAndWaiting(t *testing.T) { // P7.1
	for _, k := range []struct {
		picture       string
		list, waiting []api.Extent
	}{
		{"f", []api.Extent{at(0, 1)}, nil},
		{"t", nil, nil},
		{"l", nil, []api.Extent{at(0, 1)}},
		{"ffttll", []api.Extent{at(0, 2)}, []api.Extent{at(4, 2)}},
		{"llttff", []api.Extent{at(4, 2)}, []api.Extent{at(0, 2)}},
		{"ffllff", []api.Extent{at(0, 2), at(4, 2)}, []api.Extent{at(2, 2)}},
		{"llffll", []api.Extent{at(2, 2)}, []api.Extent{at(0, 2), at(4, 2)}},
		{"flflf", []api.Extent{at(0, 1), at(2, 1), at(4, 1)}, []api.Extent{at(1, 1), at(3, 1)}},
		{"ltfftlllf", []api.Extent{at(2, 2), at(8, 1)}, []api.Extent{at(0, 1), at(5, 3)}},
		{"tttt", nil, nil},
		{"llll", nil, []api.Extent{at(0, 4)}},
	} {
		m := drawn(t, k.picture)
		if got := m.List(); !slices.Equal(got, k.list) {
			t.Errorf("of %s: List() = %v, not %v", k.picture, got, k.list)
		}
		if got := m.Waiting(); !slices.Equal(got, k.waiting) {
			t.Errorf("of %s: Waiting() = %v, not %v", k.picture, got, k.waiting)
		}
		wantMap(t, k.picture, m, k.picture)
	}
}

// TestExtentsGrowTogether: extents that come to lie beside each other are one, however they came there.
func TestExtentsGrowTogether(t *testing.T) { // P7.1, P7.3
	m, picture := drawn(t, "ttttttttt"), "ttttttttt"
	for _, e := range []api.Extent{at(0, 1), at(4, 1), at(8, 1), at(5, 3), at(1, 3)} {
		picture = wantTurn(t, m, picture, 1, e)
	}
	if l := m.List(); !slices.Equal(l, []api.Extent{at(0, 9)}) {
		t.Errorf("List() = %v", l)
	}
	m, picture = drawn(t, "ttttttttt"), "ttttttttt"
	for _, e := range []api.Extent{at(8, 1), at(0, 2), at(4, 2), at(6, 2), at(2, 2)} {
		picture = wantTurn(t, m, picture, 2, e)
	}
	if l := m.Waiting(); !slices.Equal(l, []api.Extent{at(0, 9)}) {
		t.Errorf("Waiting() = %v", l)
	}
}

func TestAlloc(t *testing.T) { // P7.2
	for _, k := range []struct {
		picture string
		n       int
		want    api.Extent
		err     api.Errno
	}{
		{"ffff", math.MinInt, at(0, 0), api.ErrExtent},
		{"ffff", -1, at(0, 0), api.ErrExtent},
		{"ffff", 0, at(0, 0), api.ErrExtent},
		{"ffff", 1, at(0, 1), api.OK},
		{"ffff", 3, at(0, 3), api.OK},
		{"ffff", 4, at(0, 4), api.OK},
		{"ffff", 5, at(0, 4), api.OK},
		{"ffff", math.MaxInt, at(0, 4), api.OK},
		// Where nothing is FREE, n below 1 comes first.
		{"tltl", math.MinInt, at(0, 0), api.ErrExtent},
		{"tltl", -1, at(0, 0), api.ErrExtent},
		{"tltl", 0, at(0, 0), api.ErrExtent},
		{"tltl", 1, at(0, 0), api.ErrSpace},
		{"tltl", math.MaxInt, at(0, 0), api.ErrSpace},
		{"llll", 1, at(0, 0), api.ErrSpace},
		{"tttt", 4, at(0, 0), api.ErrSpace},
		// Of those that have room the first, not the best nor the longest.
		{"tffftfftffff", 1, at(1, 1), api.OK},
		{"tffftfftffff", 2, at(1, 2), api.OK},
		{"tffftfftffff", 3, at(1, 3), api.OK},
		{"tffftfftffff", 4, at(8, 4), api.OK},
		{"tffftfftffff", 5, at(8, 4), api.OK},
		{"ftffftfffff", 4, at(6, 4), api.OK},
		// Of those that are equally long the first.
		{"ftfftfftft", 3, at(2, 2), api.OK},
		{"ftftf", 2, at(0, 1), api.OK},
		{"lfflffl", 3, at(1, 2), api.OK},
		{"fftfflfff", math.MaxInt, at(6, 3), api.OK},
		// What is LATER isn't given, nor does it join two extents.
		{"fflff", 3, at(0, 2), api.OK},
		{"lllff", 3, at(3, 2), api.OK},
		{"lllfflll", 1, at(3, 1), api.OK},
	} {
		m := drawn(t, k.picture)
		got, err := m.Alloc(k.n)
		if got != k.want || err != k.err {
			t.Errorf("of %s: Alloc(%d) = %v, %d, not %v, %d", k.picture, k.n, got, err, k.want, k.err)
		}
		behind := with(k.picture, k.want, isTaken)
		wantMap(t, "behind Alloc", m, behind)
		wantTaken(t, "behind Alloc", m, behind)
	}
}

func TestAllocTillNothingIsFree(t *testing.T) { // P7.2
	m := New(10)
	for _, want := range []api.Extent{at(0, 4), at(4, 4), at(8, 2)} {
		if e, err := m.Alloc(4); e != want || err != api.OK {
			t.Errorf("Alloc(4) = %v, %d, not %v", e, err, want)
		}
	}
	if e, err := m.Alloc(4); e != at(0, 0) || err != api.ErrSpace {
		t.Errorf("Alloc(4) = %v, %d", e, err)
	}
	wantTaken(t, "behind the last Alloc", m, "tttttttttt")
}

func TestAll(t *testing.T) { // P7.2
	for _, k := range []struct {
		picture string
		n       int
		want    []api.Extent
		err     api.Errno
	}{
		{"ffff", math.MinInt, nil, api.OK},
		{"ffff", -1, nil, api.OK},
		{"ffff", 0, nil, api.OK},
		{"ffff", 1, []api.Extent{at(0, 1)}, api.OK},
		{"ffff", 3, []api.Extent{at(0, 3)}, api.OK},
		{"ffff", 4, []api.Extent{at(0, 4)}, api.OK},
		{"ffff", 5, nil, api.ErrSpace},
		{"ffff", math.MaxInt, nil, api.ErrSpace},
		// Where nothing is FREE, none is no error.
		{"tltl", math.MinInt, nil, api.OK},
		{"tltl", 0, nil, api.OK},
		{"tltl", 1, nil, api.ErrSpace},
		{"tltl", math.MaxInt, nil, api.ErrSpace},
		// The longest first; of what is lacking then, the first that has room.
		{"ftfftffft", 3, []api.Extent{at(5, 3)}, api.OK},
		{"ftfftffft", 4, []api.Extent{at(5, 3), at(0, 1)}, api.OK},
		{"ftfftffft", 5, []api.Extent{at(5, 3), at(2, 2)}, api.OK},
		{"ftfftffft", 6, []api.Extent{at(5, 3), at(2, 2), at(0, 1)}, api.OK},
		{"ftfftffft", 7, nil, api.ErrSpace},
		{"fftffftfff", 4, []api.Extent{at(3, 3), at(0, 1)}, api.OK},
		{"fftffftfff", 5, []api.Extent{at(3, 3), at(0, 2)}, api.OK},
		{"fftffftfff", 6, []api.Extent{at(3, 3), at(7, 3)}, api.OK},
		{"fftffftfff", 7, []api.Extent{at(3, 3), at(7, 3), at(0, 1)}, api.OK},
		{"fftffftfff", 8, []api.Extent{at(3, 3), at(7, 3), at(0, 2)}, api.OK},
		{"fftffftfff", 9, nil, api.ErrSpace},
		{"flflf", 3, []api.Extent{at(0, 1), at(2, 1), at(4, 1)}, api.OK},
		{"flflf", 4, nil, api.ErrSpace},
	} {
		m := drawn(t, k.picture)
		got, err := m.All(k.n)
		if !slices.Equal(got, k.want) || err != k.err {
			t.Errorf("of %s: All(%d) = %v, %d, not %v, %d", k.picture, k.n, got, err, k.want, k.err)
		}
		behind := k.picture
		for _, e := range k.want {
			behind = with(behind, e, isTaken)
		}
		wantMap(t, "behind All", m, behind)
		wantTaken(t, "behind All", m, behind)
	}
}

// TestManyExtents: as many extents as a Map can have.
func TestManyExtents(t *testing.T) { // P7.1, P7.2
	picture := strings.Repeat("ft", 512)
	m := drawn(t, picture)
	wantMap(t, "all apart", m, picture)
	for _, n := range []int{513, 1024, math.MaxInt} {
		wantAll(t, m, picture, n)
	}
	picture = wantAlloc(t, m, picture, 2)
	wantAll(t, m, picture, 512)
	picture = wantAll(t, m, picture, 511)
	wantAlloc(t, m, picture, 1)
	wantTaken(t, "all taken", m, picture)
}

// oddExtents: extents that a map of n sectors doesn't have whole.
func oddExtents(n int) []api.Extent {
	return []api.Extent{
		at(0, 0), at(0, -1), at(1, 0), at(1, -1), at(n-1, 0), at(n, 0), at(n, -1), at(n, -n), at(0, math.MinInt), at(n, math.MinInt),
		at(-1, 1), at(-1, 2), at(-1, n), at(-1, n+1), at(-1, n+2), at(-n, n), at(-n, 2*n), at(math.MinInt, 1), at(math.MinInt, n), at(math.MinInt, math.MaxInt), at(math.MinInt, math.MinInt),
		at(n, 1), at(n, 2), at(n+1, 1), at(1<<32, 1), at(1<<32+1, 1), at(math.MaxInt, 1), at(math.MaxInt-1, 1),
		at(0, n+1), at(1, n), at(n-1, 2), at(0, 1<<32), at(0, 1<<32+1), at(0, math.MaxInt),
		at(1, math.MaxInt), at(n-1, math.MaxInt), at(n, math.MaxInt), at(2, math.MaxInt-1), at(math.MaxInt, math.MaxInt), at(math.MaxInt, 2), at(math.MaxInt, n), at(math.MaxInt-1, 2),
		at(-1, math.MaxInt), at(-1, math.MinInt), at(math.MaxInt, math.MinInt), at(math.MaxInt, -1), at(math.MaxInt, 0), at(math.MinInt, 0), at(math.MinInt, -1),
	}
}

func TestExtentsThatAreNotThere(t *testing.T) { // P7.3, P1
	for _, n := range []int{1, 2, 4, 1023, 1024} {
		for which := range turns {
			picture := strings.Repeat(string(turns[which].from), n)
			m := drawn(t, picture)
			for _, e := range oddExtents(n) {
				if isAll(picture, e.Start, e.Len, turns[which].from) {
					t.Fatalf("%v is there", e)
				}
				wantTurn(t, m, picture, which, e)
			}
			wantTurn(t, m, picture, which, at(0, n))
		}
	}
}

// TestOneSectorIsNotAsItMustBe: the first, one between or the last; nothing is changed then, ahead of it neither.
func TestOneSectorIsNotAsItMustBe(t *testing.T) { // P7.3
	for _, k := range turns {
		for _, c := range []rune{isFree, isTaken, isLater} {
			for i := range 5 {
				asMustBe := strings.Repeat(string(k.from), 5)
				picture := string(c) + with(asMustBe, at(i, 1), c) + string(c)
				m := drawn(t, picture)
				want := api.ErrExtent
				if c == k.from {
					want = api.OK
				}
				wantErr(t, k.name+" of "+picture, k.do(m, at(1, 5)), want)
				if want != api.OK {
					wantMap(t, "behind "+k.name, m, picture)
					wantTaken(t, "behind "+k.name, m, picture)
					continue
				}
				wantMap(t, "behind "+k.name, m, with(picture, at(1, 5), k.to))
				wantErr(t, k.name+" again", k.do(m, at(1, 5)), api.ErrExtent)
			}
		}
	}
}

func TestTurnsLeaveTheirNeighbours(t *testing.T) { // P7.3
	for which, k := range turns {
		for _, beside := range []rune{isFree, isTaken, isLater} {
			picture := string(beside) + strings.Repeat(string(k.from), 3) + string(beside)
			wantTurn(t, drawn(t, picture), picture, which, at(1, 3))
			wantTurn(t, drawn(t, picture), picture, which, at(2, 1))
		}
	}
}

// TestLater: what is LATER is neither FREE nor TAKEN, till a Commit.
func TestLater(t *testing.T) { // P7.3
	m := drawn(t, "ttll")
	wantErr(t, "Take", m.Take(at(2, 1)), api.ErrExtent)
	wantErr(t, "Free", m.Free(at(2, 1)), api.ErrExtent)
	wantErr(t, "Later", m.Later(at(2, 1)), api.ErrExtent)
	if _, err := m.Alloc(1); err != api.ErrSpace {
		t.Errorf("Alloc(1) answers %d", err)
	}
	if _, err := m.All(1); err != api.ErrSpace {
		t.Errorf("All(1) answers %d", err)
	}
	wantMap(t, "ahead of Commit", m, "ttll")
	m.Commit()
	wantMap(t, "behind Commit", m, "ttff")
	wantErr(t, "Free", m.Free(at(2, 1)), api.ErrExtent)
	wantErr(t, "Later", m.Later(at(2, 1)), api.ErrExtent)
	if e, err := m.Alloc(1); e != at(2, 1) || err != api.OK {
		t.Errorf("Alloc(1) = %v, %d", e, err)
	}
	wantErr(t, "Take", m.Take(at(3, 1)), api.OK)
	wantMap(t, "all taken", m, "tttt")
}

func TestCommit(t *testing.T) { // P7.3
	for _, k := range []struct{ ahead, behind string }{
		{"", ""}, {"f", "f"}, {"t", "t"}, {"l", "f"},
		{"ftftf", "ftftf"}, {"tlftlf", "tfftff"}, {"llll", "ffff"}, {"lttl", "fttf"}, {"lflfl", "fffff"}, {"fltlf", "fftff"},
	} {
		m := drawn(t, k.ahead)
		for range 2 {
			m.Commit()
			wantMap(t, "Commit of "+k.ahead, m, k.behind)
			wantTaken(t, "Commit of "+k.ahead, m, k.behind)
		}
	}
}

func TestCommitOfManySectors(t *testing.T) { // P7.3
	m := New(1024)
	wantErr(t, "Take", m.Take(at(0, 1024)), api.OK)
	wantErr(t, "Later", m.Later(at(0, 1024)), api.OK)
	wantCommit(t, m, strings.Repeat("l", 1024))
	wantErr(t, "Take", m.Take(at(0, 1024)), api.OK)
}

// TestAllPictures: each call with each argument about the edges, at every map of up to six sectors.
func TestAllPictures(t *testing.T) { // P7.1, P7.2, P7.3
	for size := range 7 {
		for _, picture := range pictures(size) {
			wantMap(t, picture, drawn(t, picture), picture)
			wantTaken(t, picture, drawn(t, picture), picture)
			for n := -1; n <= size+1; n++ {
				wantAlloc(t, drawn(t, picture), picture, n)
				wantAll(t, drawn(t, picture), picture, n)
			}
			wantCommit(t, drawn(t, picture), picture)
			everyTurn(t, picture)
		}
	}
}

// everyTurn holds Take, Free and Later of each extent in a picture and about its edges against the words.
func everyTurn(t *testing.T, picture string) {
	t.Helper()
	for which := range turns {
		m := drawn(t, picture)
		for start := -1; start <= len(picture)+1; start++ {
			for n := -1; n <= len(picture)+1; n++ {
				if wantTurn(t, m, picture, which, at(start, n)) != picture {
					m = drawn(t, picture)
				}
			}
		}
	}
}

// TestAnswersAreTheCallersOwn: an answer that is written over, its spare room too, changes neither the Map nor another answer.
func TestAnswersAreTheCallersOwn(t *testing.T) { // P7.1, P7.2
	picture := "fftlltfltfftl"
	m := drawn(t, picture)
	scrawl := func(l []api.Extent) {
		l = l[:cap(l)]
		for i := range l {
			l[i] = at(-7, 99)
		}
	}
	list, waiting := m.List(), m.Waiting()
	scrawl(m.List())
	scrawl(m.Waiting())
	if !slices.Equal(list, extentsByWords(picture, isFree)) || !slices.Equal(waiting, extentsByWords(picture, isLater)) {
		t.Errorf("an answer was changed by another: %v, %v", list, waiting)
	}
	scrawl(list)
	scrawl(waiting)
	wantMap(t, "behind changed answers", m, picture)
	wantTaken(t, "behind changed answers", m, picture)
	all, err := m.All(4)
	if err != api.OK {
		t.Fatalf("All(4) answers %d", err)
	}
	_, _, picture = allByWords(picture, 4)
	scrawl(all)
	wantMap(t, "behind a changed answer of All", m, picture)
	wantTaken(t, "behind a changed answer of All", m, picture)
	wantCommit(t, m, picture)
}

func TestAnswersStayAsTheyWere(t *testing.T) { // P7.1, P7.2
	m := drawn(t, "fftlltf")
	list, waiting := m.List(), m.Waiting()
	all, _ := m.All(3)
	m.Commit()
	m.Alloc(1)
	m.Free(at(0, 2))
	if !slices.Equal(list, []api.Extent{at(0, 2), at(6, 1)}) || !slices.Equal(waiting, []api.Extent{at(3, 2)}) || !slices.Equal(all, []api.Extent{at(0, 2), at(6, 1)}) {
		t.Errorf("answers were changed by later calls: %v, %v, %v", list, waiting, all)
	}
}

// someExtent: an extent as random draws it, most often one whose sectors are there.
func someExtent(r *rand.Rand, total int) api.Extent {
	if r.Intn(8) == 0 {
		odd := oddExtents(total)
		return odd[r.Intn(len(odd))]
	}
	start := r.Intn(total + 1)
	return at(start, r.Intn(min(total-start, 12)+2))
}

// likely: an extent of the letter, or a part of one, so that most calls at random have something to do.
func likely(r *rand.Rand, picture string, c rune) api.Extent {
	l := extentsByWords(picture, c)
	if len(l) == 0 || r.Intn(4) == 0 {
		return someExtent(r, len(picture))
	}
	e := l[r.Intn(len(l))]
	skip := r.Intn(e.Len)
	return at(e.Start+skip, 1+r.Intn(e.Len-skip))
}

// someCall: a call at random, held against the picture; what is the picture behind it?
func someCall(t *testing.T, r *rand.Rand, m *Map, picture string) string {
	t.Helper()
	n := r.Intn(len(picture)/2+4) - 1
	switch r.Intn(12) {
	case 0:
		return wantAll(t, m, picture, n)
	case 1, 2, 3:
		return wantAlloc(t, m, picture, min(n, 6))
	case 4:
		return wantCommit(t, m, picture)
	case 5, 6:
		return wantTurn(t, m, picture, 0, likely(r, picture, isFree))
	case 7, 8, 9:
		return wantTurn(t, m, picture, 1, likely(r, picture, isTaken))
	default:
		return wantTurn(t, m, picture, 2, likely(r, picture, isTaken))
	}
}

func TestCallsAtRandom(t *testing.T) { // P7.1, P7.2, P7.3, P2
	for _, k := range []struct{ total, calls int }{{1, 200}, {2, 400}, {3, 1000}, {9, 5000}, {40, 5000}, {200, 2000}, {1023, 300}, {1024, 300}} {
		r := rand.New(rand.NewSource(int64(k.total)))
		m, picture := New(k.total), strings.Repeat(string(isFree), k.total)
		for range k.calls {
			picture = someCall(t, r, m, picture)
		}
		wantTaken(t, "behind all calls", m, picture)
	}
}

// TestMapsAreApart: what is done to one Map is not seen in another.
func TestMapsAreApart(t *testing.T) { // P2
	r := rand.New(rand.NewSource(7))
	a, b := New(30), New(30)
	pictureA, pictureB := strings.Repeat("f", 30), strings.Repeat("f", 30)
	for range 500 {
		pictureA = someCall(t, r, a, pictureA)
		wantMap(t, "the other", b, pictureB)
		pictureB = someCall(t, r, b, pictureB)
		wantMap(t, "the other", a, pictureA)
	}
}

// TestAskingChangesNothing: List, Waiting and Count may come any number of times.
func TestAskingChangesNothing(t *testing.T) { // P2, P7.1
	m := drawn(t, "fltlff")
	for range 3 {
		wantMap(t, "asked again", m, "fltlff")
	}
	wantTaken(t, "asked", m, "fltlff")
}
