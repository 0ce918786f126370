package thing

import (
	"slices"
	"testing"

	"bailey/api"
)

// What stands in spare room: if it is another, somebody wrote there.
var (
	markedCat  = api.Cat{ID: 4242, Level: -4242}
	markedLink = api.Link{ID: 4242, Quota: -4242}
	markedByte = byte(242)
)

// spare: the list with marked spare room behind it.
func spare[T any](l []T, mark T) []T {
	room := make([]T, len(l)+5)
	fill(room, mark)
	copy(room, l)
	return room[:len(l)]
}

// roomy: the thing with spare room behind each list.
func roomy(t api.Thing) api.Thing {
	t.Label.Cats, t.Clear.Cats = spare(t.Label.Cats, markedCat), spare(t.Clear.Cats, markedCat)
	t.Links, t.Data = spare(t.Links, markedLink), spare(t.Data, markedByte)
	return t
}

// wantMarks asks whether the spare room behind a list is as it was.
func wantMarks[T comparable](t *testing.T, what string, l []T, mark T) {
	t.Helper()
	for _, x := range l[len(l):cap(l)] {
		if x != mark {
			t.Errorf("%s: %v stands in the spare room", what, x)
		}
	}
}

// wantKept asks whether a thing of roomy is as it was, with its spare room.
func wantKept(t *testing.T, what string, got, was api.Thing) {
	t.Helper()
	if !alike(got, was) {
		t.Errorf("%s: the thing is %+v, not %+v", what, got, was)
	}
	wantMarks(t, what, got.Label.Cats, markedCat)
	wantMarks(t, what, got.Clear.Cats, markedCat)
	wantMarks(t, what, got.Links, markedLink)
	wantMarks(t, what, got.Data, markedByte)
}

// fill writes over all of a list, spare room too.
func fill[T any](l []T, with T) {
	all := l[:cap(l)]
	for i := range all {
		all[i] = with
	}
}

// scrawls: each list of a thing, written over by itself.
func scrawls() map[string]func(x api.Thing) {
	return map[string]func(x api.Thing){
		"Label": func(x api.Thing) { fill(x.Label.Cats, api.Cat{ID: 666, Level: 666}) },
		"Clear": func(x api.Thing) { fill(x.Clear.Cats, api.Cat{ID: 666, Level: 666}) },
		"Links": func(x api.Thing) { fill(x.Links, api.Link{ID: 666, Quota: 666}) },
		"Data":  func(x api.Thing) { fill(x.Data, 66) },
	}
}

func scrawl(x api.Thing) {
	for _, over := range scrawls() {
		over(x)
	}
}

// forms: things with lists of many lengths, Right and not.
func forms() []api.Thing {
	return append(samples(), full(), api.Thing{},
		with(full(), func(x *api.Thing) { x.Label.Cats, x.Links = nil, nil }),
		with(full(), func(x *api.Thing) { x.Clear.Cats, x.Data = nil, make([]byte, 1000) }),
		with(full(), func(x *api.Thing) { x.Links = append(x.Links, make([]api.Link, 30)...) }))
}

// P11.2: a copy shares no memory with what it was made of, each list by itself, spare room included.
func TestCopyMemory(t *testing.T) {
	for _, was := range forms() {
		for name, over := range scrawls() {
			x := roomy(was)
			y := Copy(x)
			over(y)
			wantKept(t, "the copy's "+name+" is written over", x, was)

			y = Copy(x)
			over(x)
			if !alike(y, was) {
				t.Errorf("%s is written over: the copy is %+v, not %+v", name, y, was)
			}

			y = Copy(roomy(was))
			over(y)
			for other, is := range partsAlike(y, was) {
				if other != name && !is {
					t.Errorf("the copy's %s is written over, and its %s is another", name, other)
				}
			}
		}
	}
}

// partsAlike: which lists of two things are the same.
func partsAlike(a, b api.Thing) map[string]bool {
	return map[string]bool{
		"Label": slices.Equal(a.Label.Cats, b.Label.Cats),
		"Clear": slices.Equal(a.Clear.Cats, b.Clear.Cats),
		"Links": slices.Equal(a.Links, b.Links),
		"Data":  slices.Equal(a.Data, b.Data),
	}
}

// P11.2: a thing whose Label and Clear are one list in memory has a copy with two.
func TestCopyOfOneListTwice(t *testing.T) {
	cats := []api.Cat{cat(1, 4), cat(2, 3), cat(3, 4)}
	for _, x := range []api.Thing{
		{Label: of(2, cats...), Clear: of(2, cats...)}, {Label: of(2, cats[:1]...), Clear: of(2, cats[1:]...)}, {Label: of(2, cats[:2]...), Clear: of(2, cats[1:]...)},
	} {
		y := Copy(x)
		fill(y.Label.Cats, api.Cat{ID: 666})
		if !slices.Equal(y.Clear.Cats, x.Clear.Cats) {
			t.Errorf("the copy's Label is written over: Clear is %v", y.Clear)
		}
		y = Copy(x)
		fill(y.Clear.Cats, api.Cat{ID: 666})
		if !slices.Equal(y.Label.Cats, x.Label.Cats) {
			t.Errorf("the copy's Clear is written over: Label is %v", y.Label)
		}
	}
}

// P2, P11.1 to P11.3: no call changes or keeps what it was given, and asked again it says the same.
func TestMemory(t *testing.T) {
	for _, was := range forms() {
		x, z := roomy(was), roomy(was)
		right, same, copied := Right(x), Same(x, z), Copy(x)
		image, err := Image(x)
		wantKept(t, "asked", x, was)
		wantKept(t, "asked", z, was)
		told := slices.Clone(image)

		second, _ := Image(x)
		fill(second, 66)
		scrawl(x)
		scrawl(z)
		if string(image) != string(told) || !alike(copied, was) {
			t.Errorf("what was handed in is changed, and so are %v and %+v", image, copied)
		}
		again, errAgain := Image(was)
		if Right(was) != right || Same(was, plainCopy(was)) != same || string(again) != string(told) || err != errAgain {
			t.Errorf("asked again of %+v: %v, %v, %v, %d", was, Right(was), Same(was, plainCopy(was)), again, errAgain)
		}
		if !same || right != (err == api.OK) {
			t.Errorf("of %+v: Right %v, Same %v, Image %d", was, right, same, err)
		}
	}
}

// P2, P11.4: Read doesn't change its bytes, keeps nothing of them, and what it answers is new.
func TestReadMemory(t *testing.T) {
	for _, was := range samples() {
		image := imageByWords(was)
		b := spare(image, markedByte)
		x, err := Read(b)
		if err != api.OK || string(b) != string(image) {
			t.Errorf("Read of %v: %d, and they are %v", image, err, b)
		}
		wantMarks(t, "read", b, markedByte)
		y, _ := Read(b)
		scrawl(y)
		if !alike(x, was) || string(b) != string(image) {
			t.Errorf("an answer is written over: another is %+v, the bytes are %v", x, b)
		}
		wantMarks(t, "an answer is written over", b, markedByte)
		fill(b, 66)
		if !alike(x, was) {
			t.Errorf("the bytes are written over: the thing is %+v, not %+v", x, was)
		}
		for name, over := range scrawls() {
			y, _ = Read(image)
			over(y)
			for other, is := range partsAlike(y, was) {
				if other != name && !is {
					t.Errorf("an answer's %s is written over, and its %s is another", name, other)
				}
			}
		}
		for n := range b {
			wrong := spare(image[:n], markedByte)
			Read(wrong)
			if string(wrong) != string(image[:n]) {
				t.Errorf("Read of %v: they are %v", image[:n], wrong)
			}
			wantMarks(t, "read in vain", wrong, markedByte)
		}
	}
}

// P1: many bytes are no reason not to end.
func TestReadOfManyBytes(t *testing.T) {
	for _, first := range samples() {
		b := append(imageByWords(first), make([]byte, 1<<24)...)
		if x, err := Read(b); err != api.ErrThing || !alike(x, api.Thing{}) {
			t.Errorf("many bytes: %+v, %d", x, err)
		}
	}
}
