package flow

import (
	"slices"
	"testing"

	"bailey/api"
)

// marked is what stands in spare room: if it is another, somebody wrote there.
var marked = api.Cat{ID: 4242, Level: -4242}

// roomy: the label with spare room behind its Cats.
func roomy(l api.Label) api.Label {
	cats := slices.Concat(l.Cats, slices.Repeat([]api.Cat{marked}, 5))
	return api.Label{Def: l.Def, Cats: cats[:len(l.Cats)]}
}

func roomyWho(w Who) Who { return Who{roomy(w.Label), roomy(w.Clear)} }

// wantKept asks whether a label of roomy is as it was, with its spare room.
func wantKept(t *testing.T, what string, got, was api.Label) {
	t.Helper()
	if got.Def != was.Def || !slices.Equal(got.Cats, was.Cats) {
		t.Errorf("%s: the label is %v, not %v", what, got, was)
	}
	for _, c := range got.Cats[len(got.Cats):cap(got.Cats)] {
		if c != marked {
			t.Errorf("%s: %v stands in the spare room", what, c)
		}
	}
}

func wantKeptWho(t *testing.T, what string, got, was Who) {
	t.Helper()
	wantKept(t, what, got.Label, was.Label)
	wantKept(t, what, got.Clear, was.Clear)
}

// scrawl writes over all of a label, spare room too.
func scrawl(w Who) {
	for _, l := range []api.Label{w.Label, w.Clear} {
		all := l.Cats[:cap(l.Cats)]
		for i := range all {
			all[i] = api.Cat{ID: 666, Level: 666}
		}
	}
}

// P2, P10.1 to P10.4: no call changes or keeps what it was given, and asked again it says the same.
func TestMemory(t *testing.T) {
	forms := []api.Label{
		plain, tainted, owned, of(2, cat(1, 0), cat(5, 4), cat(9, 5)),
		of(2, cat(9, 0), cat(5, 5), cat(5, 1), cat(1, 2), cat(1, 3)), of(5, cat(7, 0), cat(5, 0)), of(0, cat(7, 5)),
	}
	for name, call := range asks() {
		for i := range len(forms) * len(forms) * len(forms) {
			one, two, three := forms[i%len(forms)], forms[i/len(forms)%len(forms)], forms[i/len(forms)/len(forms)]
			was := six{Who{one, two}, Who{two, three}, Who{three, one}}
			s := six{roomyWho(was.w), roomyWho(was.gate), roomyWho(was.next)}
			first, _ := call(s)
			wantKeptWho(t, name+", the thread", s.w, was.w)
			wantKeptWho(t, name+", the gate", s.gate, was.gate)
			wantKeptWho(t, name+", next", s.next, was.next)
			scrawl(s.w)
			scrawl(s.gate)
			scrawl(s.next)
			if again, _ := call(was); again != first {
				t.Errorf("%s of %v: %v, and asked again %v", name, was, first, again)
			}
		}
	}
}

// P10.1 to P10.4: one label may be handed in at many places.
func TestOneLabelEverywhere(t *testing.T) {
	for _, row := range []struct {
		l                                                    api.Label
		reads, writes, makes, spawns, taints, clears, enters bool
	}{
		{tainted, true, true, true, true, true, true, true},
		{owned, true, true, false, false, true, false, false},
		{of(2, cat(9, 0), cat(7, 4)), true, true, false, false, false, false, false},
		{of(5), true, true, false, false, false, false, false},
		{of(-3), true, true, false, false, false, false, false},
		{api.Label{}, true, true, false, false, false, false, false},
	} {
		l, w := row.l, Who{row.l, row.l}
		got := []bool{Reads(w, l), Writes(w, l), Makes(w, l), Spawns(w, l, l), Taints(w, l), Clears(w, l), Enters(w, w, w)}
		want := []bool{row.reads, row.writes, row.makes, row.spawns, row.taints, row.clears, row.enters}
		if !slices.Equal(got, want) {
			t.Errorf("%v: %v, not %v", l, got, want)
		}
	}
}

// P1: a long list is no reason not to end.
func TestLongLists(t *testing.T) {
	const count = 100000
	down := make([]api.Cat, count)
	for i := range down {
		down[i] = cat(uint64(count-i), i%7)
	}
	long := of(api.Plain, down...)
	w := Who{long, long}
	if !Reads(w, plain) && Writes(w, plain) {
		t.Error("Writes, but doesn't Read")
	}
	if !Reads(w, long) || !Writes(w, long) {
		t.Error("what has its own label")
	}
	if Makes(w, long) || Spawns(w, long, long) || Taints(w, long) || Clears(w, long) || Enters(w, w, w) {
		t.Error("a label that isn't Right")
	}
	if Makes(w, plain) || Spawns(w, plain, plain) || Taints(w, plain) || Clears(w, plain) || Enters(w, w, pp) {
		t.Error("a label that is above Plain")
	}
}
