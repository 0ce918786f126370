package thing

import (
	"math"
	"math/rand"
	"slices"
	"strconv"
	"testing"

	"bailey/api"
)

// wantOfEach holds a change against P11.1, of each of some kinds.
func wantOfEach(t *testing.T, name string, kinds []int, breaks string, change func(x *api.Thing)) {
	t.Helper()
	for _, some := range []map[int]api.Thing{fewest(), between(), most()} {
		for _, kind := range kinds {
			wantRight(t, name+", of the kind "+strconv.Itoa(kind), with(some[kind], change), breaks)
		}
	}
}

var (
	allKinds  = []int{1, 2, 3, 4, 5, 6}
	owners    = []int{2, 3}
	notOwners = []int{1, 4, 5, 6}
)

// without: all kinds but these.
func without(kinds ...int) []int {
	return slices.DeleteFunc(slices.Clone(allKinds), func(k int) bool { return slices.Contains(kinds, k) })
}

// P11.1
func TestRightOfSamples(t *testing.T) {
	for i, x := range samples() {
		wantRight(t, "sample "+strconv.Itoa(i), x, "")
	}
}

// P11.1: the zero thing, and one of each kind that has no more than it.
func TestRightOfNothing(t *testing.T) {
	wantRight(t, "the zero thing", api.Thing{}, idRange+"; "+kindRange+"; "+labelRight+"; "+labelStar)
	if Right(api.Thing{Kind: 6}) || Right(api.Thing{ID: 1, Kind: 6, Quota: 1}) || Right(api.Thing{ID: 1, Kind: 6, Label: of(2)}) {
		t.Error("a device without a part of what all have")
	}
	if !Right(api.Thing{ID: 1, Kind: 6, Label: of(2), Quota: 1}) {
		t.Error("a device")
	}
}

// P11.1
func TestRightID(t *testing.T) {
	for id, breaks := range map[uint64]string{
		0: idRange, 1: "", 2: "", 1<<48 - 2: "", 1<<48 - 1: "", 1 << 48: idRange, 1<<48 + 1: idRange, 1 << 63: idRange, greatest: idRange,
	} {
		wantOfEach(t, "the ID "+strconv.FormatUint(id, 16), allKinds, breaks, func(x *api.Thing) { x.ID = id })
	}
}

// P11.1
func TestRightKind(t *testing.T) {
	for _, kind := range []int{math.MinInt, -250, -1, 0, 7, 8, 255, 256, 257, 262, 1 << 32, math.MaxInt} {
		wantRight(t, "the kind "+strconv.Itoa(kind), with(fewest()[6], func(x *api.Thing) { x.Kind = kind }), kindRange)
	}
	for from, x := range fewest() {
		for kind := -1; kind <= 8; kind++ {
			y := with(x, func(x *api.Thing) { x.Kind = kind })
			if got, want := Right(y), broken(y) == ""; got != want {
				t.Errorf("the kind %d of one of the kind %d: %v", kind, from, got)
			}
		}
	}
}

// wrongLabels: labels without Star, none of which is Right.
func wrongLabels() map[string]api.Label {
	return map[string]api.Label{
		"Def at High":          of(api.High),
		"Def above High":       of(6),
		"Def below Star":       of(-1),
		"Def of any int":       of(math.MaxInt),
		"Def of 256 more":      of(256 + api.Plain),
		"a level at High":      of(2, cat(7, api.High)),
		"a level below Star":   of(2, cat(7, -1)),
		"a level of 256 more":  of(2, cat(7, 256+api.Taint)),
		"a level of 256":       of(2, cat(7, 256)),
		"the ID 0":             of(2, cat(0, 4)),
		"an ID above MaxCat":   of(2, cat(lastCat+1, 4)),
		"the greatest ID":      of(2, cat(greatest, 4)),
		"seven categories":     of(4, seven...),
		"out of order":         of(2, cat(9, 4), cat(7, 4)),
		"repeated":             of(2, cat(7, 4), cat(7, 4)),
		"repeated, otherwise":  of(2, cat(7, 4), cat(7, 3)),
		"the level Def":        of(2, cat(7, 2)),
		"the level Def, later": of(2, cat(7, 4), cat(8, 2)),
	}
}

// P11.1
func TestRightLabel(t *testing.T) {
	for name, l := range wrongLabels() {
		wantOfEach(t, name, allKinds, labelRight, func(x *api.Thing) { x.Label = l })
		wantOfEach(t, "Clear, "+name, owners, clearRight, func(x *api.Thing) { x.Clear = l })
	}
	for name, l := range map[string]api.Label{
		"Def at Low": of(1), "Def at Taint": of(4), "six categories": of(4, seven[:6]...), "from 1 to MaxCat": of(2, cat(1, 1), cat(lastCat, 4)),
		"an ID above 2^48": of(2, cat(1<<48, 3)),
	} {
		wantOfEach(t, name, allKinds, "", func(x *api.Thing) { x.Label = l })
		wantOfEach(t, "Clear, "+name, owners, "", func(x *api.Thing) { x.Clear = l })
	}
	// Neither one hangs on the other.
	wantOfEach(t, "Label above Clear", owners, "", func(x *api.Thing) { x.Label, x.Clear = of(4, cat(7, 3)), of(1) })
	wantOfEach(t, "Clear above Label", owners, "", func(x *api.Thing) { x.Label, x.Clear = of(1), of(4, cat(7, 3)) })
}

// P11.1
func TestRightStar(t *testing.T) {
	for name, l := range map[string]api.Label{
		"a Star": of(2, cat(7, 0)), "a Star ahead": of(2, cat(7, 0), cat(8, 4), cat(9, 3)), "a Star behind": of(2, cat(7, 4), cat(8, 3), cat(9, 0)),
		"a Star between": of(1, cat(7, 4), cat(8, 0), cat(9, 3)), "Stars alone": of(4, fullCats(0, 0, 0, 0, 0, 0)...),
	} {
		wantOfEach(t, name, owners, "", func(x *api.Thing) { x.Label = l })
		wantOfEach(t, name, notOwners, labelStar, func(x *api.Thing) { x.Label = l })
		wantOfEach(t, "Clear, "+name, owners, clearStar, func(x *api.Thing) { x.Clear = l })
	}
	star := of(api.Star)
	wantOfEach(t, "Def at Star", owners, labelRight, func(x *api.Thing) { x.Label = star })
	wantOfEach(t, "Def at Star", notOwners, labelRight+"; "+labelStar, func(x *api.Thing) { x.Label = star })
	wantOfEach(t, "Clear, Def at Star", owners, clearRight+"; "+clearStar, func(x *api.Thing) { x.Clear = star })
	wantOfEach(t, "Clear, none", owners, clearRight+"; "+clearStar, func(x *api.Thing) { x.Clear = api.Label{} })
}

// P11.1: what the kind doesn't have, each part alone.
func TestRightHasNoMore(t *testing.T) {
	for name, l := range map[string]api.Label{
		"Clear": of(2), "Clear's Def": of(-1), "Clear's Cats": of(0, cat(7, 4)), "Clear's zero Cats": of(0, cat(0, 0)), "a full Clear": of(2, cat(7, 4)),
	} {
		wantOfEach(t, name, without(2, 3), noClear, func(x *api.Thing) { x.Clear = l })
	}
	for _, n := range []int{1, -1, 256, 1 << 32, math.MaxInt, math.MinInt} {
		wantOfEach(t, "Next", without(1), noNext, func(x *api.Thing) { x.Next = n })
		wantOfEach(t, "Minted", without(2), noMinted, func(x *api.Thing) { x.Minted = n })
		wantOfEach(t, "Boot", without(2), noBoot, func(x *api.Thing) { x.Boot = n })
	}
	for _, links := range [][]api.Link{{{ID: 1, Quota: 1}}, {{}}, {{ID: 1, Quota: 1}, {ID: 2, Quota: 1}}} {
		wantOfEach(t, "Links", without(1), noLinks, func(x *api.Thing) { x.Links = links })
	}
	for _, n := range []int{1, 31, 32, 64} {
		wantOfEach(t, "Data", without(4), noData, func(x *api.Thing) { x.Data = make([]byte, n) })
	}
	for _, bits := range []uint64{1, minusZero, noNumber, 1 << 32, greatest} {
		for i := range 4 {
			wantOfEach(t, "Regs", without(2), noRegs, func(x *api.Thing) { x.Regs[i] = bits })
			wantOfEach(t, "Slots, Dir", without(5), noSlots, func(x *api.Thing) { x.Slots[i].Dir = bits })
			wantOfEach(t, "Slots, Seg", without(5), noSlots, func(x *api.Thing) { x.Slots[i].Seg = bits })
			wantOfEach(t, "Slots, both", without(5), noSlots, func(x *api.Thing) { x.Slots[i] = api.Slot{Dir: 1, Seg: 1} })
		}
		wantOfEach(t, "Value", without(3), noValue, func(x *api.Thing) { x.Value = bits })
	}
	wantOfEach(t, "Halted", without(2), noHalted, func(x *api.Thing) { x.Halted = true })
}

// P11.1: a list of nothing is none.
func TestRightOfEmptyLists(t *testing.T) {
	wantOfEach(t, "empty lists", without(4), "", func(x *api.Thing) { x.Data = []byte{} })
	wantOfEach(t, "empty lists", without(1), "", func(x *api.Thing) { x.Links = []api.Link{} })
	wantOfEach(t, "empty lists", without(2, 3), "", func(x *api.Thing) { x.Clear.Cats = []api.Cat{} })
	wantOfEach(t, "empty lists", allKinds, "", func(x *api.Thing) { x.Label.Cats = []api.Cat{} })
	wantOfEach(t, "empty lists", []int{1}, "", func(x *api.Thing) { x.Links = []api.Link{} })
	wantOfEach(t, "empty Data of a segment", []int{4}, dataPages, func(x *api.Thing) { x.Data, x.Quota = []byte{}, 1 })
}

// P11.1
func TestRightQuota(t *testing.T) {
	for quota, breaks := range map[int]string{
		math.MinInt: quotaRange, -1: quotaRange, 0: quotaRange, 1: "", 2: quotaRange, 48: quotaRange, 257: quotaRange, 1<<16 + 1: quotaRange, 1<<32 + 1: quotaRange, math.MaxInt: quotaRange,
	} {
		wantOfEach(t, "the Quota "+strconv.Itoa(quota), []int{2, 3, 5, 6}, breaks, func(x *api.Thing) { x.Quota = quota })
	}
	for quota, breaks := range map[int]string{
		math.MinInt: quotaRange + "; " + linksFit, -1: quotaRange + "; " + linksFit, 0: quotaRange + "; " + linksFit, 1: "", 2: "", 47: "", 48: "",
		49: quotaRange, 1<<16 + 1: quotaRange, math.MaxInt: quotaRange,
	} {
		wantRight(t, "a directory's Quota "+strconv.Itoa(quota), with(fewest()[1], func(x *api.Thing) { x.Quota = quota }), breaks)
	}
	for pages := 1; pages <= 4; pages++ {
		for quota := -1; quota <= 8; quota++ {
			breaks := quotaRange
			if quota == pages+1 {
				breaks = ""
			}
			wantOfEach(t, "a segment's Quota", []int{4}, breaks, func(x *api.Thing) { x.Data, x.Quota = make([]byte, 32*pages), quota })
		}
	}
}

// P11.1
func TestRightSegment(t *testing.T) {
	for n := range 170 {
		breaks := dataPages
		if n == 32 || n == 64 || n == 96 || n == 128 {
			breaks = ""
		}
		wantOfEach(t, "Data of "+strconv.Itoa(n), []int{4}, breaks, func(x *api.Thing) { x.Data, x.Quota = make([]byte, n), 1+n/32 })
	}
	for _, n := range []int{32 * 256, 32*256 + 32, 1 << 16, 1<<16 + 32, 1 << 20} {
		wantOfEach(t, "Data of "+strconv.Itoa(n), []int{4}, dataPages, func(x *api.Thing) { x.Data, x.Quota = make([]byte, n), 1+n/32 })
	}
}

// P11.1
func TestRightDirectory(t *testing.T) {
	for next, breaks := range map[int]string{
		math.MinInt: nextRange, -1: nextRange, 0: "", 1: "", 62: "", 63: "", 64: nextRange, 256: nextRange, 1 << 16: nextRange, math.MaxInt: nextRange,
	} {
		wantOfEach(t, "Next "+strconv.Itoa(next), []int{1}, breaks, func(x *api.Thing) { x.Next = next })
	}
	links := func(ids ...uint64) []api.Link {
		var l []api.Link
		for _, id := range ids {
			l = append(l, api.Link{ID: id, Quota: 1})
		}
		return l
	}
	upTo := func(n uint64) []api.Link {
		var l []api.Link
		for id := range n {
			l = append(l, api.Link{ID: id + 1, Quota: 1})
		}
		return l
	}
	for name, row := range map[string]struct {
		links  []api.Link
		breaks string
	}{
		"15":                      {upTo(15), ""},
		"16":                      {upTo(16), ""},
		"17":                      {upTo(17), linkCount},
		"47":                      {upTo(47), linkCount},
		"equal":                   {links(7, 7), linksRise},
		"equal, later":            {links(6, 7, 7), linksRise},
		"equal, with one between": {links(7, 8, 7), linksRise},
		"falling":                 {links(8, 7), linksRise},
		"falling, later":          {links(1, 9, 8), linksRise},
		"falling, then higher":    {links(5, 4, 6), linksRise},
		"0":                       {links(0), linkIDs},
		"0, ahead":                {links(0, 1), linkIDs},
		"0, behind":               {links(1, 0), linksRise + "; " + linkIDs},
		"1 and 2^48 - 1":          {links(1, lastID), ""},
		"2^48":                    {links(1 << 48), linkIDs},
		"2^48, behind":            {links(1, 2, 1<<48), linkIDs},
		"2^48 + 1":                {links(1<<48 + 1), linkIDs},
		"the greatest":            {links(1, greatest), linkIDs},
		"its own":                 {links(66), ""},
	} {
		x := api.Thing{ID: 66, Kind: 1, Label: of(2), Quota: 48, Next: 1, Links: row.links}
		wantRight(t, "links: "+name, x, row.breaks)
	}
}

// P11.1
func TestRightLinksQuotas(t *testing.T) {
	for name, row := range map[string]struct {
		quota  int
		quotas []int
		breaks string
	}{
		"none":                     {1, nil, ""},
		"1":                        {2, []int{1}, ""},
		"1, full":                  {1, []int{1}, linksFit},
		"0":                        {48, []int{0}, linkQuotas},
		"0, behind":                {48, []int{1, 0}, linkQuotas},
		"below 0":                  {48, []int{5, -1}, linkQuotas},
		"47":                       {48, []int{47}, ""},
		"48":                       {48, []int{48}, linksFit},
		"49":                       {48, []int{49}, linkQuotas + "; " + linksFit},
		"49, and less than 0":      {48, []int{49, -10}, linkQuotas},
		"48 together and 1":        {48, []int{40, 7}, ""},
		"49 together and 1":        {48, []int{40, 8}, linksFit},
		"47 of 16":                 {48, []int{2, 2, 2, 2, 2, 2, 2, 2, 2, 2, 2, 2, 2, 2, 2, 17}, ""},
		"48 of 16":                 {48, []int{2, 2, 2, 2, 2, 2, 2, 2, 2, 2, 2, 2, 2, 2, 2, 18}, linksFit},
		"16 of 48":                 {48, []int{48, 48, 48, 48, 48, 48, 48, 48, 48, 48, 48, 48, 48, 48, 48, 48}, linksFit},
		"together and 1 at Quota":  {9, []int{3, 5}, ""},
		"together at Quota":        {9, []int{3, 6}, linksFit},
		"the first alone too much": {9, []int{9, 1}, linksFit},
		"the last alone too much":  {9, []int{1, 9}, linksFit},
		"they go round to 0":       {48, []int{math.MaxInt, math.MaxInt, 2}, linkQuotas + "; " + linksFit},
		"they go round to 1":       {48, []int{1 << 62, 1 << 62, 1 << 62, 1 << 62, 1}, linkQuotas + "; " + linksFit},
		"they go round, below 0":   {48, []int{math.MinInt, math.MinInt, 1}, linkQuotas},
		"and 1 goes round":         {48, []int{math.MaxInt}, linkQuotas + "; " + linksFit},
		"of 256 more":              {48, []int{256 + 1}, linkQuotas + "; " + linksFit},
		"of 2^16 more":             {48, []int{1<<16 + 1}, linkQuotas + "; " + linksFit},
		"Quota below 0":            {math.MinInt, []int{1}, quotaRange + "; " + linksFit},
		"Quota above all":          {math.MaxInt, []int{1}, quotaRange},
		"full, and Quota above 48": {49, []int{48}, quotaRange},
	} {
		x := api.Thing{ID: 66, Kind: 1, Label: of(2), Quota: row.quota}
		for i, q := range row.quotas {
			x.Links = append(x.Links, api.Link{ID: uint64(100 + i), Quota: q})
		}
		wantRight(t, "quotas: "+name, x, row.breaks)
	}
}

// numberRows: bits that are their own Canon, and such as aren't.
func numberRows() map[uint64]bool {
	rows := map[uint64]bool{
		0: true, 1: true, minusZero: true, minusZero + 1: true, 0x3FF0000000000000: true, plusInfinity - 1: true, plusInfinity: true,
		plusInfinity | minusZero: true, noNumber: true, noNumber + 1: false, noNumber - 1: false, noNumber | minusZero: false,
		plusInfinity + 1: false, plusInfinity | minusZero | 1: false, greatest: false, greatest >> 1: false,
	}
	for i := range 52 {
		rows[plusInfinity|1<<i] = false
	}
	return rows
}

// P11.1
func TestRightNumbers(t *testing.T) {
	for bits, canon := range numberRows() {
		name, regs, value := "the bits "+strconv.FormatUint(bits, 16), "", ""
		if !canon {
			regs, value = regsCanon, valueCanon
		}
		for i := range 4 {
			wantOfEach(t, name, []int{2}, regs, func(x *api.Thing) { x.Regs[i] = bits })
		}
		wantOfEach(t, name, []int{2}, regs, func(x *api.Thing) { x.Regs = [4]uint64{bits, bits, bits, bits} })
		wantOfEach(t, name, []int{3}, value, func(x *api.Thing) { x.Value = bits })
	}
}

// P11.1
func TestRightThread(t *testing.T) {
	for n, breaks := range map[int]string{
		math.MinInt: mintedRange, -1: mintedRange, 0: "", 1: "", 30: "", 31: "", 32: mintedRange, 255: mintedRange, 256: mintedRange, 1 << 32: mintedRange, math.MaxInt: mintedRange,
	} {
		wantOfEach(t, "Minted "+strconv.Itoa(n), []int{2}, breaks, func(x *api.Thing) { x.Minted = n })
	}
	for n, breaks := range map[int]string{
		math.MinInt: bootRange, -1: bootRange, 0: "", 1: "", 32: "", 254: "", 255: "", 256: bootRange, 257: bootRange, 1 << 32: bootRange, math.MaxInt: bootRange,
	} {
		wantOfEach(t, "Boot "+strconv.Itoa(n), []int{2}, breaks, func(x *api.Thing) { x.Boot = n })
	}
	wantOfEach(t, "Halted", []int{2}, "", func(x *api.Thing) { x.Halted = true })
	wantOfEach(t, "not Halted", []int{2}, "", func(x *api.Thing) { x.Halted = false })
}

// P11.1
func TestRightSpace(t *testing.T) {
	for name, row := range map[string]struct {
		slot   api.Slot
		breaks string
	}{
		"none":             {api.Slot{}, ""},
		"Dir 0":            {api.Slot{Dir: 0, Seg: 1}, slotsRange},
		"Seg 0":            {api.Slot{Dir: 1, Seg: 0}, slotsRange},
		"both 1":           {api.Slot{Dir: 1, Seg: 1}, ""},
		"both at the end":  {api.Slot{Dir: lastID, Seg: lastID}, ""},
		"Dir 2^48":         {api.Slot{Dir: 1 << 48, Seg: 1}, slotsRange},
		"Seg 2^48":         {api.Slot{Dir: 1, Seg: 1 << 48}, slotsRange},
		"both 2^48":        {api.Slot{Dir: 1 << 48, Seg: 1 << 48}, slotsRange},
		"Dir the greatest": {api.Slot{Dir: greatest, Seg: 1}, slotsRange},
		"Seg the greatest": {api.Slot{Dir: 1, Seg: greatest}, slotsRange},
		"Dir 0, Seg 2^48":  {api.Slot{Dir: 0, Seg: 1 << 48}, slotsRange},
		"Seg 0, Dir 2^48":  {api.Slot{Dir: 1 << 48, Seg: 0}, slotsRange},
	} {
		for i := range 4 {
			wantOfEach(t, "a slot: "+name, []int{5}, row.breaks, func(x *api.Thing) { x.Slots[i] = row.slot })
		}
	}
	// One segment may be mapped at many places.
	wantOfEach(t, "slots alike", []int{5}, "", func(x *api.Thing) {
		x.Slots = [4]api.Slot{{Dir: 7, Seg: 8}, {Dir: 7, Seg: 8}, {Dir: 7, Seg: 8}, {Dir: 8, Seg: 7}}
	})
}

// P11.1: things of any form, against the words.
func TestRightAtRandom(t *testing.T) {
	r := rand.New(rand.NewSource(11))
	right := 0
	for range 50000 {
		x := drawnThing(r)
		if broken(x) == "" {
			right++
		}
		wantRight(t, "drawn", x, broken(x))
		if t.Failed() {
			break
		}
	}
	if right < 5000 || right > 45000 {
		t.Errorf("%d of them are Right", right)
	}
}

// drawnThing: a sample of some kind, with a few parts drawn anew.
func drawnThing(r *rand.Rand) api.Thing {
	x := pick(r, fewest, between, most)()[1+r.Intn(6)]
	for range r.Intn(4) {
		changeAtRandom(r, &x)
	}
	return x
}

func changeAtRandom(r *rand.Rand, x *api.Thing) {
	bits := func() uint64 {
		return pick(r, 0, 1, 2, uint64(r.Intn(9)), lastID, lastID+1, minusZero, plusInfinity, noNumber, noNumber+1, r.Uint64())
	}
	small := func() int { return pick(r, -1, 0, 1, 2, 31, 32, 48, 63, 64, 255, 256, r.Intn(70)) }
	switch r.Intn(14) {
	case 0:
		x.ID = bits()
	case 1:
		x.Kind = r.Intn(8)
	case 2:
		x.Label = drawnLabel(r)
	case 3:
		x.Clear = drawnLabel(r)
	case 4:
		x.Quota = small()
	case 5:
		x.Next = small()
	case 6:
		x.Links = drawnLinks(r)
	case 7:
		x.Data = make([]byte, pick(r, 0, 32, 64, 96, 128, 160, r.Intn(200)))
		x.Quota = 1 + len(x.Data)/32
		r.Read(x.Data)
	case 8:
		x.Regs[r.Intn(4)] = bits()
	case 9:
		x.Minted = small()
	case 10:
		x.Boot = small()
	case 11:
		x.Halted = !x.Halted
	case 12:
		x.Value = bits()
	case 13:
		x.Slots[r.Intn(4)] = api.Slot{Dir: bits(), Seg: bits()}
	}
}

func drawnLabel(r *rand.Rand) api.Label {
	l := of(1 + r.Intn(4))
	for id := range uint64(r.Intn(8)) {
		if level := pick(r, 0, 1, 2, 3, 4, 1+r.Intn(5)); level != l.Def {
			l.Cats = append(l.Cats, cat(pick(r, id, id+1, 1+id*id, lastCat-9+id), level))
		}
	}
	if r.Intn(3) > 0 { // in order it is Right more often
		slices.SortFunc(l.Cats, func(a, b api.Cat) int { return int(a.ID) - int(b.ID) })
	}
	return l
}

func drawnLinks(r *rand.Rand) []api.Link {
	var links []api.Link
	id := uint64(0)
	for range r.Intn(18) {
		id += uint64(pick(r, 0, 1, 1, 2, 3, 60, 1<<44))
		links = append(links, api.Link{ID: id, Quota: pick(r, 0, 1, 1, 1, 2, 3, 20, 48)})
	}
	return links
}

// P1: a long list is no reason not to end.
func TestLongLists(t *testing.T) {
	const count = 1 << 20
	for _, x := range samples() {
		long := []api.Thing{
			with(x, func(x *api.Thing) { x.Label.Cats = make([]api.Cat, count) }),
			with(x, func(x *api.Thing) { x.Clear.Cats = make([]api.Cat, count) }),
			with(x, func(x *api.Thing) { x.Links = make([]api.Link, count) }),
			with(x, func(x *api.Thing) { x.Data = make([]byte, count) }),
		}
		for _, y := range long {
			if Right(y) || Same(x, y) || !Same(y, Copy(y)) {
				t.Errorf("a long list of one of the kind %d", x.Kind)
			}
			if b, err := Image(y); err != api.ErrThing || len(b) != 0 {
				t.Errorf("a long list of one of the kind %d: %d bytes, %d", x.Kind, len(b), err)
			}
		}
	}
}
