package graph

import (
	"math/rand"
	"slices"
	"testing"

	"bailey/api"
	"bailey/dir"
	"bailey/thing"
)

// drawnLabel: a label, with Star or without.
func drawnLabel(r *rand.Rand, owns bool) api.Label {
	l := api.Label{Def: 1 + r.Intn(4)}
	for id := range uint64(r.Intn(4)) {
		if level := r.Intn(5); level != l.Def && (owns || level > 0) {
			l.Cats = append(l.Cats, api.Cat{ID: 5 * (id + 1), Level: level})
		}
	}
	return l
}

// drawnThing: a thing of that ID, of any kind, of a Dir with at most that quota.
func drawnThing(r *rand.Rand, id uint64, most int) api.Thing {
	t := api.Thing{ID: id, Kind: pick(r, 1, 1, 1, 1+r.Intn(6)), Quota: 1}
	t.Label = drawnLabel(r, t.Kind == api.Thread || t.Kind == api.Gate)
	switch t.Kind {
	case api.Dir:
		t.Quota = max(1, most-r.Intn(3)*r.Intn(8))
	case api.Segment:
		t.Data = make([]byte, 32*(1+r.Intn(4)))
		r.Read(t.Data)
		t.Quota += len(t.Data) / 32
	case api.Thread:
		t.Clear, t.Boot, t.Halted, t.Regs[1] = drawnLabel(r, false), r.Intn(256), r.Intn(2) > 0, uint64(r.Intn(9))
	case api.Gate:
		t.Clear, t.Value = drawnLabel(r, false), uint64(r.Intn(9))
	case api.Space:
		t.Slots[r.Intn(4)] = api.Slot{Dir: 1, Seg: 1 + uint64(r.Intn(99))}
	}
	return t
}

func dirsOf(g []api.Thing) []api.Thing {
	return slices.DeleteFunc(plainCopies(g), func(t api.Thing) bool { return t.Kind != api.Dir })
}

// drawn: a SOUND GRAPH, as things are made in it, linked and unlinked.
func drawn(r *rand.Rand) []api.Thing {
	g := []api.Thing{dirOf(1, 1+r.Intn(48), r.Intn(3))}
	for range r.Intn(30) {
		d := pick(r, dirsOf(g)...)
		switch r.Intn(8) {
		case 0:
			if len(d.Links) > 0 {
				g = unlinkByWords(g, d.ID, pick(r, d.Links...).ID).g
			}
		case 1:
			g = giving(g, d.ID, min(63, d.Next+r.Intn(3)))
		case 2, 3:
			if x := pick(r, g...); x.Kind != api.Dir {
				d, _ = dir.Add(d, x.ID, x.Quota)
				g = and(g, d)
			}
		default:
			x := drawnThing(r, 0, d.Quota-dir.Used(d))
			after, name, err := dir.Born(d, x.Quota)
			if x.ID = name; err == api.OK {
				g = and(and(g, after), x)
			}
		}
	}
	return g
}

// drawnID: one that is there, or that lies in one that is, or any.
func drawnID(r *rand.Rand, g []api.Thing) uint64 {
	id := pick(r, g...).ID
	some := []uint64{id, id, id + 1, id<<6 | uint64(r.Intn(64)), id<<12 | uint64(r.Intn(4096)), id >> 6, 1 + uint64(r.Int63n(1<<(1+r.Intn(48))))}
	return max(1, pick(r, some...)&lastID)
}

// hurt: the list with something else in it. Its things stay Right, and its first one the directory 1.
func hurt(r *rand.Rand, g []api.Thing) []api.Thing {
	d, x, id := pick(r, dirsOf(g)...), pick(r, g...), drawnID(r, g)
	after := g
	switch r.Intn(9) {
	case 0:
		after = without(g, x.ID)
	case 1:
		if len(d.Links) > 0 {
			after = unlinking(g, d.ID, pick(r, d.Links...).ID)
		}
	case 2:
		if len(d.Links) > 0 {
			l := pick(r, d.Links...)
			after = linking(g, d.ID, link(l.ID, l.Quota+pick(r, -1, 1, 2)))
		}
	case 3:
		after = linking(g, d.ID, link(x.ID, x.Quota))
	case 4:
		after = linking(g, d.ID, link(id, 1+r.Intn(3)))
	case 5:
		after = and(g, drawnThing(r, id, 1+r.Intn(20)))
	case 6:
		x = drawnThing(r, id, 1+r.Intn(4))
		after = holding(g, d.ID, x)
	case 7:
		after = giving(g, d.ID, r.Intn(1+d.Next))
	case 8:
		after = with(g, d.ID, func(t *api.Thing) { t.Quota += pick(r, -2, -1, 1) })
	}
	if slices.ContainsFunc(after, func(t api.Thing) bool { return !thing.Right(t) }) || len(after) == 0 || after[0].ID != 1 || after[0].Kind != api.Dir {
		return g
	}
	return after
}

// P13.1, P13.2, P13.3: SOUND GRAPHs drawn at random, and every link of theirs dropped.
func TestDrawn(t *testing.T) {
	r := rand.New(rand.NewSource(13))
	met := map[int]int{}
	for range 600 {
		g := drawn(r)
		wantSound(t, "drawn", g, "")
		wantWords(t, g, someIDs(g))
		wantMend(t, "drawn", g, g)
		for _, d := range g {
			ids := append(linkedBy(d), drawnID(r, g), d.ID, 1, 0)
			for _, id := range ids {
				want := unlinkByWords(g, d.ID, id)
				wantUnlink(t, "drawn", asUnlink(g, d.ID, id), want)
				if want.err == api.OK {
					met[min(len(want.gone), 4)]++
				}
			}
		}
		if t.Failed() {
			t.FailNow()
		}
	}
	for gone := range 5 {
		if met[gone] < 20 {
			t.Errorf("that %d are gone was met %d times", gone, met[gone])
		}
	}
}

// count counts what Mend is to do with a list.
func count(met map[string]int, g, mended []api.Thing) {
	for _, d := range dirsOf(g) {
		for _, l := range d.Links {
			met[[]string{"not there", "another quota", "another holder", "no reason"}[reasonToDrop(g, d, l)]]++
		}
	}
	if len(mended) < len(g) {
		met["not reached"]++
	}
	for _, d := range mended {
		if was, _ := findByWords(g, d.ID); was.Next != d.Next {
			met["a Next raised"]++
		}
	}
	if alike(g, mended) {
		met["as it is"]++
	}
}

// P13.1, P13.3: lists drawn at random of things that are Right.
func TestMendDrawn(t *testing.T) {
	r := rand.New(rand.NewSource(131))
	met := map[string]int{}
	for range 2000 {
		g := drawn(r)
		for range 1 + r.Intn(6) {
			g = hurt(r, g)
			mended := mendByWords(g)
			wantMend(t, "hurt", g, mended)
			wantSound(t, "hurt", g, broken(g))
			count(met, g, mended)
			met[broken(g)]++
		}
		wantWords(t, g, someIDs(g))
		if t.Failed() {
			t.FailNow()
		}
	}
	for _, what := range []string{
		"not there", "another quota", "another holder", "no reason", "not reached", "a Next raised", "as it is", "",
		linkThere, linkQuota, dirLinked, dirOnce, dirByParent, otherLinked, nameGiven, underGiven,
	} {
		if met[what] < 10 {
			t.Errorf("%q was met %d times", what, met[what])
		}
	}
}

// spoilt: the list with its order changed, or with one thing that can't be.
func spoilt(r *rand.Rand, g []api.Thing) []api.Thing {
	g = plainCopies(g)
	i, j := r.Intn(len(g)), r.Intn(len(g))
	switch r.Intn(6) {
	case 0:
		g[i], g[j] = g[j], g[i]
	case 1:
		g = slices.Insert(g, i, g[j])
	case 2:
		g[i].Kind = r.Intn(9) - 1
	case 3:
		g[i].Label.Def = r.Intn(7) - 1
	case 4:
		g[i].Next += r.Intn(99) - 49
	case 5:
		g[i].ID = drawnID(r, g)
	}
	return g
}

// P13.1: lists drawn at random that are no GRAPH, or of things that aren't Right, aren't SOUND.
func TestSoundDrawn(t *testing.T) {
	r := rand.New(rand.NewSource(132))
	met := map[string]int{}
	for range 4000 {
		g := spoilt(r, drawn(r))
		wantSound(t, "spoilt", g, broken(g))
		if met[broken(g)]++; t.Failed() {
			t.FailNow()
		}
	}
	for _, what := range []string{"", idsRise, thingsRight, firstIsOne} {
		if met[what] < 20 {
			t.Errorf("%q was met %d times", what, met[what])
		}
	}
}
