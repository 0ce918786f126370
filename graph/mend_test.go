package graph

import (
	"testing"

	"bailey/api"
)

// P13.3
func TestMendOfNothing(t *testing.T) {
	for _, none := range [][]api.Thing{nil, {}} {
		if got := Mend(none); len(got) != 0 {
			t.Errorf("of no things: %+v", got)
		}
	}
}

// P13.3: a SOUND GRAPH stays as it is.
func TestMendOfSound(t *testing.T) {
	g := tree()
	for name, sound := range map[string][]api.Thing{
		"the first alone":             {dirOf(1, 1, 0)},
		"a tree":                      g,
		"no name more than there are": giving(giving(g, root, 3), house, 2),
		"all names":                   giving(giving(giving(giving(g, root, 63), house, 63), room, 63), shelf, 63),
		"the rest 0":                  holding(giving(bare(), root, 0), root, deviceOf(root*64)),
		"no directory's names":        holding(holding(bare(), root, deviceOf(63)), root, deviceOf(lone*64+63)),
		"six steps under a name":      holding(g, shelf, deviceOf(1<<42|5<<36|7)),
	} {
		wantSound(t, name, sound, "")
		wantMend(t, name, sound, sound)
	}
}

// P13.3: each reason to drop a link, alone, and what is gone with it.
func TestMendLinks(t *testing.T) {
	g := tree()
	away := unlinking(g, root, house)
	for name, row := range map[string]struct{ g, want []api.Thing }{
		"it isn't there":                  {linking(g, root, link(older, 1)), g},
		"it isn't there, ahead of others": {linking(g, house, link(2, 1)), g},
		"it isn't there, behind others":   {linking(g, shelf, link(lastID, 1)), g},
		"what was linked isn't there":     {without(g, lone), unlinking(without(g, lone), root, lone)},
		"what four linked isn't there": {
			without(g, shared), unlinking(unlinking(unlinking(unlinking(without(g, shared), root, shared), house, shared), room, shared), shelf, shared)},
		"a directory isn't there": {
			without(g, room), unlinking(without(g, room, shelf, box), house, room)},

		"one quota more, of the only link": {linking(g, root, link(lone, 2)), unlinking(without(g, lone), root, lone)},
		"one quota more, of one of two":    {linking(g, root, link(book, 4)), unlinking(g, root, book)},
		"one quota less, of one of two":    {linking(g, house, link(book, 2)), unlinking(g, house, book)},
		"one of four, far within":          {linking(g, shelf, link(shared, 1)), unlinking(g, shelf, shared)},
		"the first of four":                {linking(g, root, link(shared, 1)), unlinking(g, root, shared)},
		"one page more":                    {with(g, book, func(x *api.Thing) { *x = segOf(book, 3) }), unlinking(unlinking(without(g, book), root, book), house, book)},
		"a directory with one more":        {with(g, room, func(x *api.Thing) { x.Quota++ }), unlinking(without(g, room, shelf, box), house, room)},
		"the first linked from within":     {linking(g, house, link(root, 1)), g},
		"the first linked by itself":       {linking(g, root, link(root, 1)), g},

		"a directory linked by the first, too":          {linking(g, root, link(shelf, 6)), g},
		"by the one that holds its holder, too":         {linking(g, house, link(shelf, 6)), g},
		"by one next to it, too":                        {holding(linking(g, house, link(older, 1)), root, dirOf(older, 1, 0)), holding(g, root, dirOf(older, 1, 0))},
		"by another, not by its namer":                  {linking(unlinking(g, room, shelf), root, link(shelf, 6)), unlinking(without(g, shelf), room, shelf)},
		"by another, by its namer with another quota":   {linking(linking(g, room, link(shelf, 5)), root, link(shelf, 6)), unlinking(without(g, shelf), room, shelf)},
		"by its namer, by another with another quota":   {linking(g, root, link(shelf, 5)), g},
		"its namer isn't there":                         {holding(g, root, dirOf(older*64+4, 1, 0)), g},
		"its namer is no Dir":                           {holding(g, root, dirOf(lone*64+4, 1, 0)), g},
		"its namer can't be reached":                    {linking(away, root, link(room, 20)), without(away, house, room, shelf, box)},
		"no directory could have given it that name":    {holding(g, root, dirOf(2, 1, 0)), g},
		"all links of one":                              {linking(linking(g, shelf, link(shared, 1)), shelf, link(box, 2)), unlinking(unlinking(g, shelf, shared), shelf, box)},
		"three links, each for a reason of its own":     {linking(linking(linking(g, root, link(older, 1)), house, link(shelf, 6)), shelf, link(shared, 3)), unlinking(g, shelf, shared)},
		"a device under the ID of what was a directory": {with(g, room, func(x *api.Thing) { *x = deviceOf(room) }), unlinking(without(g, room, shelf, box), house, room)},
	} {
		wantMend(t, name, row.g, row.want)
	}
}

// P13.3: what can't be reached from the first is dropped.
func TestMendReach(t *testing.T) {
	g := tree()
	hall, loft := older*64+1, (older*64+1)*64+1
	far := and(and(and(g, dirOf(older, 9, 1, link(hall, 5), link(shared, 2))), dirOf(hall, 5, 1, link(loft, 2))), segOf(loft, 1))
	ring := and(and(g, dirOf(hall, 9, 1, link(loft, 5))), dirOf(loft, 5, 0, link(shared, 2), link(hall, 2)))
	for name, row := range map[string]struct{ g, want []api.Thing }{
		"a device":                           {and(g, deviceOf(older)), g},
		"the last ID":                        {and(g, deviceOf(lastID)), g},
		"just behind the first":              {and(g, deviceOf(2)), g},
		"an empty directory":                 {and(g, dirOf(older, 1, 0)), g},
		"a directory, and all that it links": {far, g},
		"two that link one another":          {ring, g},
		"one that links itself":              {and(g, dirOf(older, 9, 1, link(older, 2))), g},
		"one that links the first":           {and(g, dirOf(older, 48, 1, link(root, 47))), g},
		"a segment that two such link":       {and(and(and(g, dirOf(older, 9, 1, link(hall, 2))), dirOf(2, 9, 1, link(hall, 2))), segOf(hall, 1)), g},
		"a device whose namer is there":      {unlinking(g, root, lone), without(unlinking(g, root, lone), lone)},
		"a directory with all within": {
			unlinking(g, root, house), without(unlinking(g, root, house), house, room, shelf, box)},
		"one within": {unlinking(g, house, room), without(unlinking(g, house, room), room, shelf, box)},
		"what is linked from within alone": {
			unlinking(unlinking(g, root, house), root, shared), without(unlinking(unlinking(g, root, house), root, shared), house, shared, room, shelf, box)},
		"all but the first": {unlinking(tree()[:2], root, house), []api.Thing{dirOf(root, 48, 5)}},
	} {
		wantMend(t, name, row.g, row.want)
	}
}

// P13.3: a Next is raised to the greatest name that it must have given.
func TestMendRaises(t *testing.T) {
	g := tree()
	one := func(id uint64) []api.Thing { return holding(giving(bare(), root, 0), root, deviceOf(id)) }
	for name, row := range map[string]struct {
		g      []api.Thing
		holder uint64
		next   int
	}{
		"by what it links":                {giving(g, root, 0), root, 3},
		"by one":                          {giving(g, root, 2), root, 3},
		"of one within":                   {giving(g, shelf, 0), shelf, 1},
		"by what another links, too":      {giving(g, house, 0), house, 2},
		"by what another links alone":     {holding(g, shelf, deviceOf(root*64+6)), root, 6},
		"by a directory":                  {holding(g, root, dirOf(root*64+6, 1, 0)), root, 6},
		"the greatest of some":            {holding(one(root*64+40), root, deviceOf(root*64+39)), root, 40},
		"the last name":                   {one(root*64 + 63), root, 63},
		"by what is one step under":       {one((root*64+7)*64 + 9), root, 7},
		"by what is two steps under":      {one(((root*64+7)*64+9)*64 + 11), root, 7},
		"by what is six steps under":      {one(1<<42 | 7<<36 | 9<<30), root, 7},
		"by one under, not by another":    {holding(one(root*64+5), root, deviceOf((root*64+7)*64+3)), root, 7},
		"not by what is under it, by one": {holding(one(root*64+8), root, deviceOf((root*64+7)*64+50)), root, 8},
		"of one within, by one under":     {holding(g, root, deviceOf((shelf*64+7)*64+9)), shelf, 7},
	} {
		wantMend(t, name, row.g, giving(row.g, row.holder, row.next))
	}
	all := giving(giving(giving(giving(g, root, 0), house, 0), room, 0), shelf, 0)
	wantMend(t, "of all", all, giving(giving(giving(giving(g, root, 3), house, 2), room, 1), shelf, 1))
}

// P13.3: nor is it raised above what is there, nor lowered.
func TestMendRaisesNoMore(t *testing.T) {
	g := tree()
	few := giving(g, root, 3)
	one := func(id uint64) []api.Thing { return holding(giving(bare(), root, 0), root, deviceOf(id)) }
	for name, row := range map[string]struct{ g, want []api.Thing }{
		"by the rest 0":                   {one(root * 64), one(root * 64)},
		"by what is under that":           {one(root*64*64 + 9), one(root*64*64 + 9)},
		"by what is under another":        {one(2*64 + 9), one(2*64 + 9)},
		"of what is no Dir":               {holding(g, root, deviceOf(lone*64+63)), holding(g, root, deviceOf(lone*64+63))},
		"by the Next of one within":       {holding(g, room, dirOf(room*64+2, 1, 63)), holding(g, room, dirOf(room*64+2, 1, 63))},
		"by what can't be reached":        {and(few, deviceOf(root*64+4)), few},
		"by what is under that, and gone": {and(few, deviceOf((root*64+4)*64+1)), few},
		"by a directory that is gone":     {and(few, dirOf(root*64+4, 1, 63)), few},
		"by what has another quota":       {linking(holding(few, root, deviceOf(root*64+9)), root, link(root*64+9, 2)), few},
		"by what has another holder":      {holding(few, shelf, dirOf(root*64+9, 1, 0)), few},
		"by a link of nothing":            {linking(few, root, link(root*64+9, 1)), few},
		"lowered, of all names":           {giving(g, root, 63), giving(g, root, 63)},
		"lowered, of an empty one":        {[]api.Thing{dirOf(root, 1, 63)}, []api.Thing{dirOf(root, 1, 63)}},
		"lowered, as one is gone":         {unlinking(g, root, lone), without(unlinking(g, root, lone), lone)},
		"lowered, as its name is gone":    {unlinking(unlinking(g, room, box), shelf, box), without(unlinking(unlinking(g, room, box), shelf, box), box)},
	} {
		wantMend(t, name, row.g, row.want)
	}
}
