package thing

import (
	"math"
	"math/rand"
	"testing"

	"bailey/api"
)

// full: a thing that has something in all its parts. It is of no kind, but that isn't asked for here.
func full() api.Thing {
	return api.Thing{
		ID: 5, Kind: 9, Label: of(2, cat(7, 4), cat(8, 3)), Clear: of(3, cat(6, 1), cat(9, 2)), Quota: 6, Next: 7,
		Links: []api.Link{{ID: 10, Quota: 1}, {ID: 11, Quota: 2}}, Data: []byte{1, 2, 3}, Regs: [4]uint64{21, 22, 23, 24},
		Minted: 8, Boot: 9, Halted: true, Value: 31,
		Slots: [4]api.Slot{{Dir: 41, Seg: 42}, {Dir: 43, Seg: 44}, {Dir: 45, Seg: 46}, {Dir: 47, Seg: 48}},
	}
}

// changes: of each part alone some changes.
func changes() map[string]func(x *api.Thing) {
	all := map[string]func(x *api.Thing){
		"ID":                 func(x *api.Thing) { x.ID ^= 1 },
		"ID, high":           func(x *api.Thing) { x.ID ^= 1 << 63 },
		"Kind":               func(x *api.Thing) { x.Kind ^= 1 },
		"Kind, high":         func(x *api.Thing) { x.Kind += 256 },
		"Quota":              func(x *api.Thing) { x.Quota ^= 1 },
		"Quota, high":        func(x *api.Thing) { x.Quota += 1 << 16 },
		"Next":               func(x *api.Thing) { x.Next ^= 1 },
		"Next, high":         func(x *api.Thing) { x.Next += 1 << 16 },
		"Minted":             func(x *api.Thing) { x.Minted ^= 1 },
		"Minted, high":       func(x *api.Thing) { x.Minted += 256 },
		"Boot":               func(x *api.Thing) { x.Boot ^= 1 },
		"Boot, high":         func(x *api.Thing) { x.Boot += 256 },
		"Halted":             func(x *api.Thing) { x.Halted = !x.Halted },
		"Value":              func(x *api.Thing) { x.Value ^= 1 },
		"Value, high":        func(x *api.Thing) { x.Value ^= 1 << 63 },
		"Label, Def":         func(x *api.Thing) { x.Label.Def ^= 1 },
		"Label, Def, high":   func(x *api.Thing) { x.Label.Def += 256 },
		"Clear, Def":         func(x *api.Thing) { x.Clear.Def ^= 1 },
		"Clear, Def, high":   func(x *api.Thing) { x.Clear.Def += 256 },
		"Label, one more":    func(x *api.Thing) { x.Label.Cats = append(x.Label.Cats, cat(99, 4)) },
		"Label, of Def more": func(x *api.Thing) { x.Label.Cats = append(x.Label.Cats, cat(99, x.Label.Def)) },
		"Clear, one more":    func(x *api.Thing) { x.Clear.Cats = append(x.Clear.Cats, cat(99, 4)) },
		"Clear, of Def more": func(x *api.Thing) { x.Clear.Cats = append(x.Clear.Cats, cat(99, x.Clear.Def)) },
		"Links, one more":    func(x *api.Thing) { x.Links = append(x.Links, api.Link{ID: 99, Quota: 1}) },
		"Links, a zero one":  func(x *api.Thing) { x.Links = append(x.Links, api.Link{}) },
		"Data, one more":     func(x *api.Thing) { x.Data = append(x.Data, 1) },
		"Data, a zero more":  func(x *api.Thing) { x.Data = append(x.Data, 0) },
		"Label and Clear":    func(x *api.Thing) { x.Label, x.Clear = x.Clear, x.Label; x.Label.Def++ },
		"Label, a zero one":  func(x *api.Thing) { x.Label.Cats = append(x.Label.Cats, api.Cat{}) },
		"Clear, a zero one":  func(x *api.Thing) { x.Clear.Cats = append(x.Clear.Cats, api.Cat{}) },
		"Label, one as Clear's": func(x *api.Thing) {
			x.Label.Cats, x.Clear.Cats = append(x.Label.Cats, cat(1, 1)), append(x.Clear.Cats, cat(1, 1))
		},
	}
	for i := range 4 {
		n := string(rune('0' + i))
		all["Regs "+n] = func(x *api.Thing) { x.Regs[i] ^= 1 }
		all["Regs, high "+n] = func(x *api.Thing) { x.Regs[i] ^= 1 << 63 }
		all["Slots, Dir "+n] = func(x *api.Thing) { x.Slots[i].Dir ^= 1 }
		all["Slots, Seg "+n] = func(x *api.Thing) { x.Slots[i].Seg ^= 1 }
		all["Slots, high "+n] = func(x *api.Thing) { x.Slots[i].Seg ^= 1 << 63 }
	}
	return all
}

// listChanges: changes of lists that have two at least.
func listChanges() map[string]func(x *api.Thing) {
	return map[string]func(x *api.Thing){
		"Label, one less":       func(x *api.Thing) { x.Label.Cats = x.Label.Cats[:1] },
		"Label, none":           func(x *api.Thing) { x.Label.Cats = nil },
		"Label, order":          func(x *api.Thing) { x.Label.Cats[0], x.Label.Cats[1] = x.Label.Cats[1], x.Label.Cats[0] },
		"Label, an ID":          func(x *api.Thing) { x.Label.Cats[1].ID++ },
		"Label, an ID, high":    func(x *api.Thing) { x.Label.Cats[0].ID ^= 1 << 63 },
		"Label, a level":        func(x *api.Thing) { x.Label.Cats[1].Level ^= 1 },
		"Label, a level, high":  func(x *api.Thing) { x.Label.Cats[0].Level += 256 },
		"Label, twice":          func(x *api.Thing) { x.Label.Cats = append(x.Label.Cats, x.Label.Cats[1]) },
		"Clear, one less":       func(x *api.Thing) { x.Clear.Cats = x.Clear.Cats[1:] },
		"Clear, none":           func(x *api.Thing) { x.Clear.Cats = nil },
		"Clear, order":          func(x *api.Thing) { x.Clear.Cats[0], x.Clear.Cats[1] = x.Clear.Cats[1], x.Clear.Cats[0] },
		"Clear, an ID":          func(x *api.Thing) { x.Clear.Cats[1].ID++ },
		"Clear, an ID, high":    func(x *api.Thing) { x.Clear.Cats[0].ID ^= 1 << 63 },
		"Clear, a level":        func(x *api.Thing) { x.Clear.Cats[1].Level ^= 1 },
		"Clear, a level, high":  func(x *api.Thing) { x.Clear.Cats[0].Level += 256 },
		"Links, one less":       func(x *api.Thing) { x.Links = x.Links[:1] },
		"Links, none":           func(x *api.Thing) { x.Links = nil },
		"Links, order":          func(x *api.Thing) { x.Links[0], x.Links[1] = x.Links[1], x.Links[0] },
		"Links, an ID":          func(x *api.Thing) { x.Links[1].ID++ },
		"Links, a Quota":        func(x *api.Thing) { x.Links[0].Quota++ },
		"Links, a Quota, high":  func(x *api.Thing) { x.Links[1].Quota += 1 << 16 },
		"Links, moved":          func(x *api.Thing) { x.Links[0].Quota++; x.Links[1].Quota-- },
		"Data, one less":        func(x *api.Thing) { x.Data = x.Data[:2] },
		"Data, none":            func(x *api.Thing) { x.Data = nil },
		"Data, order":           func(x *api.Thing) { x.Data[0], x.Data[1] = x.Data[1], x.Data[0] },
		"Data, the first":       func(x *api.Thing) { x.Data[0]++ },
		"Data, the last":        func(x *api.Thing) { x.Data[2]++ },
		"Label's Cats, Clear's": func(x *api.Thing) { x.Label.Cats, x.Clear.Cats = x.Clear.Cats, x.Label.Cats },
		"Regs, order":           func(x *api.Thing) { x.Regs[0], x.Regs[1] = x.Regs[1], x.Regs[0] },
		"Slots, order":          func(x *api.Thing) { x.Slots[2], x.Slots[3] = x.Slots[3], x.Slots[2] },
		"Slots, sides":          func(x *api.Thing) { x.Slots[0].Dir, x.Slots[0].Seg = x.Slots[0].Seg, x.Slots[0].Dir },
	}
}

func wantSame(t *testing.T, what string, a, b api.Thing, want bool) {
	t.Helper()
	if Same(a, b) != want || Same(b, a) != want {
		t.Errorf("%s: Same tells %v and, the other way round, %v of %+v and %+v", what, Same(a, b), Same(b, a), a, b)
	}
}

// P11.2: each part alone unlike.
func TestSameOfEachPart(t *testing.T) {
	for _, x := range append(samples(), full(), api.Thing{}) {
		wantSame(t, "itself", x, x, true)
		wantSame(t, "a copy", x, plainCopy(x), true)
		for name, change := range changes() {
			wantSame(t, name, x, with(x, change), false)
		}
	}
	for name, change := range listChanges() {
		wantSame(t, name, full(), with(full(), change), false)
	}
	for i, x := range samples() {
		for k, y := range samples() {
			wantSame(t, "two samples", x, y, i == k)
		}
	}
}

// P11.2: a list may be nil or empty.
func TestSameOfNilAndEmpty(t *testing.T) {
	for _, x := range append(samples(), api.Thing{ID: 3}, api.Thing{}) {
		none := with(x, func(x *api.Thing) { x.Label.Cats, x.Clear.Cats, x.Links, x.Data = nil, nil, nil, nil })
		for name, change := range map[string]func(x *api.Thing){
			"Label": func(x *api.Thing) { x.Label.Cats = []api.Cat{} },
			"Clear": func(x *api.Thing) { x.Clear.Cats = make([]api.Cat, 0, 4) },
			"Links": func(x *api.Thing) { x.Links = []api.Link{} },
			"Data":  func(x *api.Thing) { x.Data = make([]byte, 5)[:0] },
		} {
			wantSame(t, name, none, with(none, change), true)
			wantSame(t, name+", copied", Copy(none), Copy(with(none, change)), true)
		}
	}
}

// P11.2: labels are held as they are written, though they may mean the same.
func TestSameOfLabelsAsWritten(t *testing.T) {
	alikes := []api.Label{
		of(2, cat(7, 4)), of(2, cat(7, 4), cat(7, 4)), of(2, cat(7, 4), cat(7, 3)), of(2, cat(7, 4), cat(8, 2)),
		of(2, cat(6, 2), cat(7, 4)), of(2, cat(7, 4), cat(6, 2)), of(2, cat(7, 4), cat(7, 2)),
	}
	for i, l := range alikes {
		for k, m := range alikes {
			a, b := with(full(), func(x *api.Thing) { x.Label = l }), with(full(), func(x *api.Thing) { x.Label = m })
			wantSame(t, "Label", a, b, i == k)
			a, b = with(full(), func(x *api.Thing) { x.Clear = l }), with(full(), func(x *api.Thing) { x.Clear = m })
			wantSame(t, "Clear", a, b, i == k)
		}
	}
}

// P11.2: numbers are held as their bits; what is no number is itself, and zeros of unlike signs aren't the same.
func TestSameOfNumbers(t *testing.T) {
	all := []uint64{0, minusZero, noNumber, noNumber + 1, noNumber | minusZero, plusInfinity, greatest}
	for i, v := range all {
		for k, w := range all {
			wantSame(t, "Value", api.Thing{Value: v}, api.Thing{Value: w}, i == k)
			wantSame(t, "Regs", api.Thing{Regs: [4]uint64{2: v}}, api.Thing{Regs: [4]uint64{2: w}}, i == k)
		}
	}
}

// P11.2: of any things, against each part asked one by one.
func TestSameAtRandom(t *testing.T) {
	r := rand.New(rand.NewSource(112))
	same := 0
	for range 40000 {
		x := drawnThing(r)
		y := plainCopy(x)
		for range r.Intn(3) {
			changeAtRandom(r, &y)
		}
		want := alike(x, y)
		if want {
			same++
		}
		wantSame(t, "drawn", x, y, want)
		if z := Copy(y); !alike(y, z) {
			t.Errorf("Copy of %+v tells %+v", y, z)
		}
	}
	if same < 4000 || same > 36000 {
		t.Errorf("%d of them are the same", same)
	}
}

// P11.2: a copy is the same, of things that are Right and of others.
func TestCopy(t *testing.T) {
	all := append(samples(), full(), api.Thing{}, api.Thing{Kind: math.MinInt, ID: greatest, Quota: math.MaxInt})
	for _, x := range all {
		for _, change := range changes() {
			all = append(all, with(x, change))
		}
	}
	for _, x := range all {
		if y := Copy(x); !alike(x, y) || !Same(x, y) {
			t.Errorf("Copy of %+v tells %+v", x, y)
		}
	}
}
