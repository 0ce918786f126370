package graph

import (
	"math"
	"testing"

	"bailey/api"
)

// P13.2
func TestChapterExample(t *testing.T) {
	g := []api.Thing{dirOf(1, 9, 1, link(65, 5)), dirOf(65, 5, 1, link(4161, 2)), segOf(4161, 1)}
	want := unlinked{[]api.Thing{dirOf(1, 9, 1)}, []uint64{65, 4161}, api.OK}
	wantUnlink(t, "of the inner one", asUnlink(g, 1, 65), want)
}

// P13.2: with an error the GRAPH is as it was, and no IDs are beside it.
func TestUnlinkErrors(t *testing.T) {
	g := tree()
	for name, row := range map[string]struct {
		holder, id uint64
		err        api.Errno
	}{
		"no such thing":                  {68, lone, api.ErrGraph},
		"none below all":                 {0, lone, api.ErrGraph},
		"none above all":                 {lastID, lone, api.ErrGraph},
		"none far above all":             {math.MaxUint64, lone, api.ErrGraph},
		"none, 2^48 above the first":     {1<<48 + 1, lone, api.ErrGraph},
		"a device":                       {lone, shared, api.ErrGraph},
		"a segment":                      {shared, shared, api.ErrGraph},
		"a thread":                       {box, root, api.ErrGraph},
		"a device of what isn't there":   {lone, 68, api.ErrGraph},
		"what isn't there, from nothing": {68, 68, api.ErrGraph},
		"it isn't there":                 {root, 68, api.ErrNone},
		"0":                              {root, 0, api.ErrNone},
		"the most":                       {house, math.MaxUint64, api.ErrNone},
		"itself":                         {house, house, api.ErrNone},
		"the first":                      {room, root, api.ErrNone},
		"what holds it":                  {room, house, api.ErrNone},
		"what another one links":         {house, lone, api.ErrNone},
		"what one within links":          {house, shelf, api.ErrNone},
		"2^48 above what it links":       {root, lone + 1<<48, api.ErrNone},
	} {
		wantUnlink(t, name, asUnlink(g, row.holder, row.id), unlinked{g, nil, row.err})
	}
	empty := []api.Thing{dirOf(root, 1, 0)}
	wantUnlink(t, "of a directory without links", asUnlink(empty, root, root), unlinked{empty, nil, api.ErrNone})
}

// P13.2
func TestUnlink(t *testing.T) {
	g := tree()
	kept := holding(g, root, deviceOf(older))
	deep := linking(g, root, link(box, 1))
	inner := unlinking(g, root, shared)
	for name, row := range map[string]struct {
		g          []api.Thing
		holder, id uint64
		gone       []uint64
	}{
		"another directory links it yet":      {g, root, book, nil},
		"the other one does":                  {g, house, book, nil},
		"three others do":                     {g, room, shared, nil},
		"one further within does":             {g, room, box, nil},
		"one further out does":                {g, shelf, box, nil},
		"none links a device any more":        {g, root, lone, []uint64{lone}},
		"none links a segment any more":       {unlinking(g, root, book), house, book, []uint64{book}},
		"none links a thread any more":        {unlinking(g, room, box), shelf, box, []uint64{box}},
		"the first one of its links":          {kept, root, lone, []uint64{lone}},
		"the last one of its links":           {holding(g, root, deviceOf(lastID)), root, lastID, []uint64{lastID}},
		"an empty directory":                  {holding(g, house, dirOf(house*64+3, 1, 0)), house, house*64 + 3, []uint64{house*64 + 3}},
		"what it holds is linked elsewhere":   {g, room, shelf, []uint64{shelf}},
		"some of it is":                       {unlinking(g, room, box), room, shelf, []uint64{shelf, box}},
		"all hangs on it":                     {g, house, room, []uint64{room, shelf, box}},
		"one step under it all is linked":     {linking(g, house, link(box, 1)), house, room, []uint64{room, shelf}},
		"all within is linked from without":   {deep, root, house, []uint64{house, room, shelf}},
		"all hangs on it at several steps":    {g, root, house, []uint64{house, room, shelf, box}},
		"linked within alone, by some of it":  {inner, root, house, []uint64{house, shared, room, shelf, box}},
		"what is older than it hangs on it":   {holding(unlinking(g, root, lone), shelf, deviceOf(lone)), root, house, []uint64{house, lone, room, shelf, box}},
		"what is linked elsewhere is far out": {holding(linking(g, root, link(older, 1)), shelf, deviceOf(older)), root, house, []uint64{house, room, shelf, box}},
	} {
		want := unlinked{without(unlinking(row.g, row.holder, row.id), row.gone...), row.gone, api.OK}
		wantSound(t, name, row.g, "")
		wantUnlink(t, name, asUnlink(row.g, row.holder, row.id), want)
	}
}
