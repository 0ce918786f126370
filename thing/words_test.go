package thing

import (
	"math"
	"math/big"
	"math/rand"
	"slices"
	"strings"
	"testing"

	"bailey/api"
)

const (
	greatest     = math.MaxUint64
	lastID       = uint64(281474976710655) // 2^48 - 1
	lastCat      = uint64(2305843009213693951)
	noNumber     = uint64(0x7FF8000000000001)
	minusZero    = uint64(1) << 63
	plusInfinity = uint64(0x7FF0000000000000)
)

func cat(id uint64, level int) api.Cat { return api.Cat{ID: id, Level: level} }

// of: a label with just these Cats, whatever form they have.
func of(def int, cats ...api.Cat) api.Label { return api.Label{Def: def, Cats: cats} }

// The words of P11.1, by the names that rows call them.
const (
	idRange     = "ID"
	kindRange   = "Kind"
	labelRight  = "Label is Right"
	labelStar   = "Label without Star"
	quotaRange  = "Quota"
	noClear     = "it has no Clear"
	noNext      = "it has no Next"
	noLinks     = "it has no Links"
	noData      = "it has no Data"
	noRegs      = "it has no Regs"
	noMinted    = "it has no Minted"
	noBoot      = "it has no Boot"
	noHalted    = "it isn't Halted"
	noValue     = "it has no Value"
	noSlots     = "it has no Slots"
	nextRange   = "Next"
	linkCount   = "so many Links"
	linksRise   = "the Links' IDs rise"
	linkIDs     = "the Links' IDs"
	linkQuotas  = "the Links' Quotas"
	linksFit    = "the Links' Quotas together and 1"
	clearRight  = "Clear is Right"
	clearStar   = "Clear without Star"
	regsCanon   = "Regs are their Canon"
	mintedRange = "Minted"
	bootRange   = "Boot"
	valueCanon  = "Value is its Canon"
	dataPages   = "pages"
	slotsRange  = "Slots"
)

// word is one of the words of the promise, and whether it holds.
type word struct {
	name  string
	holds bool
}

// wordsOf: all words of P11.1, of a thing.
func wordsOf(t api.Thing) []word {
	words := []word{
		{idRange, isIDByWords(t.ID)},
		{kindRange, t.Kind > 0 && t.Kind < 7},
		{labelRight, rightLabel(t.Label)},
		{labelStar, t.Kind == 2 || t.Kind == 3 || !starred(t.Label)},
		{noClear, t.Kind == 2 || t.Kind == 3 || t.Clear.Def == 0 && len(t.Clear.Cats) == 0},
		{noNext, t.Kind == 1 || t.Next == 0},
		{noLinks, t.Kind == 1 || len(t.Links) == 0},
		{noData, t.Kind == 4 || len(t.Data) == 0},
		{noRegs, t.Kind == 2 || t.Regs[0]|t.Regs[1]|t.Regs[2]|t.Regs[3] == 0},
		{noMinted, t.Kind == 2 || t.Minted == 0},
		{noBoot, t.Kind == 2 || t.Boot == 0},
		{noHalted, t.Kind == 2 || !t.Halted},
		{noValue, t.Kind == 3 || t.Value == 0},
		{noSlots, t.Kind == 5 || !slices.ContainsFunc(t.Slots[:], func(s api.Slot) bool { return s.Dir|s.Seg != 0 })},
	}
	switch t.Kind {
	case 1:
		return append(words, dirWords(t)...)
	case 2:
		return append(words, threadWords(t)...)
	case 3:
		return append(words,
			word{quotaRange, t.Quota == 1}, word{clearRight, rightLabel(t.Clear)}, word{clearStar, !starred(t.Clear)},
			word{valueCanon, isCanon(t.Value)})
	case 4:
		n := len(t.Data)
		return append(words, word{dataPages, n == 32 || n == 64 || n == 96 || n == 128}, word{quotaRange, t.Quota == 1+n/32})
	case 5:
		return append(words, word{quotaRange, t.Quota == 1}, word{slotsRange, rightSlots(t.Slots)})
	case 6:
		return append(words, word{quotaRange, t.Quota == 1})
	}
	return words
}

func dirWords(t api.Thing) []word {
	rise, ids, quotas, sum := true, true, true, big.NewInt(1)
	for i, l := range t.Links {
		for _, later := range t.Links[i+1:] {
			rise = rise && l.ID < later.ID
		}
		ids = ids && isIDByWords(l.ID)
		quotas = quotas && l.Quota >= 1 && l.Quota <= 48
		sum.Add(sum, big.NewInt(int64(l.Quota)))
	}
	return []word{
		{quotaRange, t.Quota >= 1 && t.Quota <= 48},
		{nextRange, t.Next >= 0 && t.Next <= 63},
		{linkCount, len(t.Links) <= 16},
		{linksRise, rise},
		{linkIDs, ids},
		{linkQuotas, quotas},
		{linksFit, sum.Cmp(big.NewInt(int64(t.Quota))) <= 0},
	}
}

func threadWords(t api.Thing) []word {
	return []word{
		{quotaRange, t.Quota == 1},
		{clearRight, rightLabel(t.Clear)},
		{clearStar, !starred(t.Clear)},
		{regsCanon, isCanon(t.Regs[0]) && isCanon(t.Regs[1]) && isCanon(t.Regs[2]) && isCanon(t.Regs[3])},
		{mintedRange, t.Minted >= 0 && t.Minted <= 31},
		{bootRange, t.Boot >= 0 && t.Boot <= 255},
	}
}

func isIDByWords(id uint64) bool { return id != 0 && id>>48 == 0 }

// rightLabel: P9.2, by its words.
func rightLabel(l api.Label) bool {
	for i, c := range l.Cats {
		if c.ID == 0 || c.ID > lastCat || c.Level < 0 || c.Level > 4 || c.Level == l.Def || i > 0 && l.Cats[i-1].ID >= c.ID {
			return false
		}
	}
	return l.Def >= 1 && l.Def <= 4 && len(l.Cats) <= 6
}

func starred(l api.Label) bool {
	return l.Def == 0 || slices.ContainsFunc(l.Cats, func(c api.Cat) bool { return c.Level == 0 })
}

// isCanon: of what is no number one form is.
func isCanon(bits uint64) bool {
	return bits == noNumber || bits<<1>>53 != 0x7FF || bits<<12 == 0
}

func rightSlots(slots [4]api.Slot) bool {
	for _, s := range slots {
		none := s.Dir == 0 && s.Seg == 0
		if !none && (!isIDByWords(s.Dir) || !isIDByWords(s.Seg)) {
			return false
		}
	}
	return true
}

// broken: the words that don't hold, with "; " between them.
func broken(t api.Thing) string {
	var names []string
	for _, w := range wordsOf(t) {
		if !w.holds {
			names = append(names, w.name)
		}
	}
	return strings.Join(names, "; ")
}

// imageByWords: P11.3 laid byte by byte; of what isn't Right nothing is asked.
func imageByWords(t api.Thing) []byte {
	b := append(highFirst(8, t.ID), byte(t.Kind))
	b = append(b, counted(labelByWords(t.Label))...)
	b = append(b, highFirst(2, uint64(t.Quota))...)
	switch t.Kind {
	case 1:
		var links []byte
		for _, l := range t.Links {
			links = append(append(links, highFirst(8, l.ID)...), highFirst(2, uint64(l.Quota))...)
		}
		b = append(append(b, highFirst(2, uint64(t.Next))...), counted(links)...)
	case 2:
		b = append(b, counted(labelByWords(t.Clear))...)
		for _, r := range t.Regs {
			b = append(b, highFirst(8, r)...)
		}
		b = append(b, byte(t.Minted), byte(t.Boot), map[bool]byte{true: 1}[t.Halted])
	case 3:
		b = append(append(b, counted(labelByWords(t.Clear))...), highFirst(8, t.Value)...)
	case 4:
		b = append(b, counted(t.Data)...)
	case 5:
		for _, s := range t.Slots {
			b = append(append(b, highFirst(8, s.Dir)...), highFirst(8, s.Seg)...)
		}
	}
	return b
}

func highFirst(width int, n uint64) []byte {
	b := make([]byte, width)
	for i := range b {
		b[width-1-i] = byte(n >> (8 * i))
	}
	return b
}

func counted(b []byte) []byte { return append(highFirst(2, uint64(len(b))), b...) }

func labelByWords(l api.Label) []byte {
	b := []byte{byte(l.Def)}
	for _, c := range l.Cats {
		b = append(append(b, highFirst(8, c.ID)...), byte(c.Level))
	}
	return b
}

// Samples.

// seven: more categories than a label has.
var seven = []api.Cat{cat(1, 1), cat(2, 2), cat(3, 3), cat(4, 1), cat(5, 2), cat(6, 3), cat(7, 1)}

// fewest: of each kind one with the least of all that it may have.
func fewest() map[int]api.Thing {
	low := of(api.Low)
	return map[int]api.Thing{
		1: {ID: 1, Kind: 1, Label: low, Quota: 1},
		2: {ID: 1, Kind: 2, Label: low, Quota: 1, Clear: low},
		3: {ID: 1, Kind: 3, Label: low, Quota: 1, Clear: low},
		4: {ID: 1, Kind: 4, Label: low, Quota: 2, Data: make([]byte, 32)},
		5: {ID: 1, Kind: 5, Label: low, Quota: 1},
		6: {ID: 1, Kind: 6, Label: low, Quota: 1},
	}
}

func fullCats(levels ...int) []api.Cat {
	cats := []api.Cat{cat(1, 0), cat(2, 0), cat(1<<32, 0), cat(1<<60, 0), cat(lastCat-1, 0), cat(lastCat, 0)}
	for i := range cats {
		cats[i].Level = levels[i]
	}
	return cats
}

// fullLinks: as many links as a directory may have, of the Quotas 47 together.
func fullLinks() []api.Link {
	var links []api.Link
	for i := range uint64(15) {
		links = append(links, api.Link{ID: 1 + i*i*i, Quota: 2})
	}
	return append(links, api.Link{ID: lastID, Quota: 17})
}

// most: of each kind one with the most of all that it may have.
func most() map[int]api.Thing {
	pure := func() api.Label { return of(api.Taint, fullCats(1, 2, 3, 1, 2, 3)...) }
	owning := func() api.Label { return of(api.Taint, fullCats(0, 2, 3, 1, 0, 0)...) }
	data := make([]byte, 128)
	for i := range data {
		data[i] = byte(255 - i)
	}
	return map[int]api.Thing{
		1: {ID: lastID, Kind: 1, Label: pure(), Quota: 48, Next: 63, Links: fullLinks()},
		2: {ID: lastID, Kind: 2, Label: owning(), Quota: 1, Clear: pure(), Minted: 31, Boot: 255, Halted: true,
			Regs: [4]uint64{noNumber, minusZero | plusInfinity, plusInfinity - 1, minusZero}},
		3: {ID: lastID, Kind: 3, Label: owning(), Quota: 1, Clear: pure(), Value: noNumber},
		4: {ID: lastID, Kind: 4, Label: pure(), Quota: 5, Data: data},
		5: {ID: lastID, Kind: 5, Label: pure(), Quota: 1, Slots: [4]api.Slot{{Dir: lastID, Seg: lastID}, {Dir: 1, Seg: lastID}, {Dir: lastID, Seg: 1}, {Dir: 0x0102030405, Seg: 0x060708090A0B}}},
		6: {ID: lastID, Kind: 6, Label: pure(), Quota: 1},
	}
}

// between: of each kind one that has something of all, but not the most of it.
func between() map[int]api.Thing {
	plain, owned := of(api.Plain, cat(7, api.Taint)), of(api.Plain, cat(7, api.Star), cat(9, api.Taint))
	data := []byte(strings.Repeat("bailey", 11))[:64]
	return map[int]api.Thing{
		1: {ID: 66, Kind: 1, Label: plain, Quota: 9, Next: 3, Links: []api.Link{{ID: 4225, Quota: 1}, {ID: 4226, Quota: 4}}},
		2: {ID: 67, Kind: 2, Label: owned, Quota: 1, Clear: plain, Regs: [4]uint64{1, 2, 3, 4}, Minted: 2, Boot: 7, Halted: true},
		3: {ID: 68, Kind: 3, Label: owned, Quota: 1, Clear: plain, Value: 8},
		4: {ID: 69, Kind: 4, Label: plain, Quota: 3, Data: data},
		5: {ID: 70, Kind: 5, Label: plain, Quota: 1, Slots: [4]api.Slot{1: {Dir: 1, Seg: 69}}},
		6: {ID: 65, Kind: 6, Label: plain, Quota: 1},
	}
}

// samples: some of each kind; all of them are Right.
func samples() []api.Thing {
	var all []api.Thing
	for _, some := range []map[int]api.Thing{fewest(), between(), most()} {
		for kind := 1; kind <= 6; kind++ {
			all = append(all, some[kind])
		}
	}
	return all
}

// with: the thing with something changed; its lists may be written to.
func with(t api.Thing, change func(x *api.Thing)) api.Thing {
	t = plainCopy(t)
	change(&t)
	return t
}

// plainCopy: a copy that isn't Copy's.
func plainCopy(t api.Thing) api.Thing {
	t.Label.Cats = append([]api.Cat(nil), t.Label.Cats...)
	t.Clear.Cats = append([]api.Cat(nil), t.Clear.Cats...)
	t.Links = append([]api.Link(nil), t.Links...)
	t.Data = append([]byte(nil), t.Data...)
	return t
}

// alike: is each part of two things the same, asked one by one?
func alike(a, b api.Thing) bool {
	return a.ID == b.ID && a.Kind == b.Kind && a.Quota == b.Quota && a.Next == b.Next &&
		a.Minted == b.Minted && a.Boot == b.Boot && a.Halted == b.Halted && a.Value == b.Value &&
		a.Label.Def == b.Label.Def && slices.Equal(a.Label.Cats, b.Label.Cats) &&
		a.Clear.Def == b.Clear.Def && slices.Equal(a.Clear.Cats, b.Clear.Cats) &&
		slices.Equal(a.Regs[:], b.Regs[:]) && slices.Equal(a.Slots[:], b.Slots[:]) &&
		slices.Equal(a.Links, b.Links) && string(a.Data) == string(b.Data)
}

// wantRight asks whether a row breaks just these words (none, if it is empty), and whether Right says no if there is one.
func wantRight(t *testing.T, name string, x api.Thing, breaks string) {
	t.Helper()
	if broken(x) != breaks {
		t.Errorf("%s: the row breaks %q, not %q: %+v", name, broken(x), breaks, x)
	}
	if got := Right(x); got != (breaks == "") {
		t.Errorf("%s: Right tells %v, where this is broken: %q", name, got, breaks)
	}
	b, err := Image(x)
	if breaks != "" && (err != api.ErrThing || len(b) != 0) {
		t.Errorf("%s: Image tells %v, %d, where this is broken: %q", name, b, err, breaks)
	}
	if breaks == "" && (err != api.OK || string(b) != string(imageByWords(x))) {
		t.Errorf("%s: Image tells %v, %d, not %v", name, b, err, imageByWords(x))
	}
}

// pick: one of some.
func pick[T any](r *rand.Rand, some ...T) T { return some[r.Intn(len(some))] }
