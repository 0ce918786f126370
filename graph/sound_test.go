package graph

import (
	"slices"
	"testing"

	"bailey/api"
)

// unused is a name of the first directory of tree that it is yet to give; older is one that it gave, of what isn't there.
const (
	unused = root*64 + 9
	older  = root*64 + 4
)

// holding: the list with one more thing, and a directory that links it.
func holding(g []api.Thing, holder uint64, t api.Thing) []api.Thing {
	return and(linking(g, holder, link(t.ID, t.Quota)), t)
}

// bare: no thing of tree, but the first one with no links, of which 9 names were given.
func bare() []api.Thing { return []api.Thing{dirOf(root, 48, 9)} }

// P13.1
func TestSound(t *testing.T) {
	g := tree()
	full := dirOf(root, 48, 63)
	crowd := []api.Thing{full}
	for i := range uint64(16) {
		crowd = holding(crowd, root, deviceOf(root*64+1+3*i))
	}
	chain := []api.Thing{dirOf(1, 48, 1, link(65, 47))}
	for id, quota := uint64(65), 47; id < api.MaxDeep; id, quota = id*64+1, quota-1 {
		chain = append(chain, dirOf(id, quota, 1, link(id*64+1, quota-1)))
	}
	chain = append(chain, dirOf(chain[len(chain)-1].Links[0].ID, 48-len(chain), 0))
	gate := api.Thing{ID: older, Kind: api.Gate, Label: g[7].Label, Clear: g[7].Clear, Quota: 1, Value: 5}
	space := api.Thing{ID: older, Kind: api.Space, Label: plain, Quota: 1, Slots: [4]api.Slot{{Dir: 3, Seg: 5}}}
	for name, sound := range map[string][]api.Thing{
		"the first alone":                 {dirOf(1, 1, 0)},
		"the first with all it may have":  {full},
		"a tree":                          g,
		"a gate":                          holding(g, root, gate),
		"a space":                         holding(g, room, space),
		"16 links":                        crowd,
		"as deep as can be":               chain,
		"no name more than there are":     giving(giving(g, root, 3), house, 2),
		"all names":                       giving(giving(g, root, 63), shelf, 63),
		"the last name":                   holding(giving(bare(), root, 63), root, deviceOf(root*64+63)),
		"the rest 0":                      holding(giving(bare(), root, 0), root, deviceOf(root*64)),
		"under the rest 0":                holding(giving(bare(), root, 0), root, deviceOf(root*64*64+63)),
		"a directory of the rest 0":       holding(giving(bare(), root, 0), root, dirOf(root*64, 1, 0)),
		"no directory's names":            holding(holding(bare(), root, deviceOf(2)), root, deviceOf(63)),
		"a name of what is no directory":  holding(g, root, deviceOf(lone*64+63)),
		"under a name of what is none":    holding(g, root, deviceOf((lone*64+63)*64+63)),
		"a name of what isn't there":      holding(g, root, deviceOf(older*64+63)),
		"the last ID":                     holding(g, root, deviceOf(lastID)),
		"under the last name, far":        holding(g, shelf, deviceOf(1<<42|5<<36|7)),
		"a name of another directory":     holding(g, shelf, deviceOf(house*64+3)),
		"linked by all, but by the first": unlinking(g, root, shared),
		"an older one linked from within": holding(unlinking(g, root, lone), shelf, deviceOf(lone)),
	} {
		wantSound(t, name, sound, "")
	}
}

// P13.1: of the words that SOUND is told by just one is broken.
func TestSoundBroken(t *testing.T) {
	g := tree()
	for name, row := range map[string]struct {
		g      []api.Thing
		breaks string
	}{
		"two in another order":          {[]api.Thing{g[0], g[1], g[3], g[2], g[4], g[5], g[6], g[7]}, idsRise},
		"the last two in another order": {[]api.Thing{g[0], g[1], g[2], g[3], g[4], g[5], g[7], g[6]}, idsRise},
		"one twice":                     {slices.Insert(tree(), 3, g[3]), idsRise},
		"the last one twice":            {append(tree(), g[7]), idsRise},

		"a Next of 64":             {giving(g, room, 64), thingsRight},
		"the first has one of 64":  {giving(g, root, 64), thingsRight},
		"no Label":                 {with(g, lone, func(x *api.Thing) { x.Label.Def = 0 }), thingsRight},
		"a byte too few":           {with(g, shared, func(x *api.Thing) { x.Data = x.Data[:31] }), thingsRight},
		"a Clear with Star":        {with(g, box, func(x *api.Thing) { x.Clear.Cats[0].Level = api.Star }), thingsRight},
		"of the kind 0":            {with(g, lone, func(x *api.Thing) { x.Kind = 0 }), thingsRight},
		"of the kind 7":            {with(g, lone, func(x *api.Thing) { x.Kind = 7 }), thingsRight},
		"a device with a link":     {with(g, lone, func(x *api.Thing) { x.Links = []api.Link{link(shared, 2)} }), thingsRight},
		"a device with a Next":     {giving(g, lone, 1), thingsRight},
		"links that fall":          {with(g, root, func(x *api.Thing) { slices.Reverse(x.Links) }), thingsRight},
		"a link twice":             {with(g, shelf, func(x *api.Thing) { x.Links = append(x.Links, link(box, 1)) }), thingsRight},
		"less quota than is used":  {with(g, root, func(x *api.Thing) { x.Quota = 39 }), thingsRight},
		"more quota than there is": {with(g, root, func(x *api.Thing) { x.Quota = 49 }), thingsRight},
		"an ID above 2^48 - 1":     {holding(g, root, deviceOf(lastID+1)), thingsRight},

		"the first is 2":                {[]api.Thing{dirOf(2, 48, 5)}, firstIsOne},
		"the first is 2, and holds one": {[]api.Thing{dirOf(2, 48, 5, link(130, 1)), deviceOf(130)}, firstIsOne},
		"the first is 65":               {[]api.Thing{dirOf(house, 9, 1)}, firstIsOne},
		"the first is the last":         {[]api.Thing{dirOf(lastID, 9, 0)}, firstIsOne},
		"the first is a device":         {[]api.Thing{deviceOf(1)}, firstIsDir},
		"the first is a segment":        {[]api.Thing{segOf(1, 1)}, firstIsDir},

		"a link of nothing":            {linking(g, root, link(older, 1)), linkThere},
		"of nothing near the first":    {linking(g, root, link(2, 1)), linkThere},
		"of nothing between":           {linking(g, room, link(70, 1)), linkThere},
		"of nothing behind all":        {linking(g, shelf, link(lastID, 1)), linkThere},
		"what was linked isn't there":  {without(g, lone), linkThere},
		"what four linked isn't there": {without(g, shared), linkThere},

		"one quota more":                {linking(g, root, link(lone, 2)), linkQuota},
		"one quota less":                {linking(g, house, link(book, 2)), linkQuota},
		"only one of four with another": {linking(g, shelf, link(shared, 1)), linkQuota},
		"the first one of four":         {linking(g, root, link(shared, 3)), linkQuota},
		"a directory with another":      {linking(g, house, link(room, 19)), linkQuota},
		"one page more":                 {with(g, shared, func(x *api.Thing) { *x = segOf(shared, 2) }), linkQuota},
		"the first linked from within":  {linking(g, house, link(root, 1)), linkQuota},
		"the first linked by itself":    {[]api.Thing{dirOf(1, 2, 0, link(1, 1))}, linkQuota},

		"a directory that none links": {unlinking(g, root, house), dirLinked},
		"one within":                  {unlinking(g, room, shelf), dirLinked},
		"an empty one":                {and(g, dirOf(older, 1, 0)), dirLinked},
		"linked by the first, too":    {linking(g, root, link(shelf, 6)), dirOnce},
		"linked by one between, too":  {linking(g, house, link(shelf, 6)), dirOnce},
		"linked by what is next to it, too": {
			holding(linking(g, house, link(older, 1)), root, dirOf(older, 1, 0)), dirOnce},
		"linked by another":      {linking(unlinking(g, room, shelf), house, link(shelf, 6)), dirByParent},
		"linked by the first":    {linking(unlinking(g, room, shelf), root, link(shelf, 6)), dirByParent},
		"by one within another":  {holding(g, shelf, dirOf(older, 1, 0)), dirByParent},
		"its namer isn't there":  {holding(g, root, dirOf(older*64+4, 1, 0)), dirByParent},
		"its namer is no Dir":    {holding(g, root, dirOf(lone*64+4, 1, 0)), dirByParent},
		"a directory below 64":   {holding(bare(), root, dirOf(2, 1, 0)), dirByParent},
		"a device none links":    {unlinking(g, root, lone), otherLinked},
		"a segment none links":   {and(g, segOf(older, 1)), otherLinked},
		"a thread none links":    {unlinking(unlinking(g, shelf, box), room, box), otherLinked},
		"the last ID none links": {and(g, deviceOf(lastID)), otherLinked},

		"a name yet to give":           {giving(g, root, 2), nameGiven},
		"one where none was given":     {giving(g, shelf, 0), nameGiven},
		"the next name":                {holding(g, house, deviceOf(root*64+6)), nameGiven},
		"the last name":                {holding(g, house, deviceOf(root*64+63)), nameGiven},
		"a directory's name":           {holding(g, root, dirOf(root*64+6, 1, 0)), nameGiven},
		"a name of one within":         {holding(g, root, deviceOf(shelf*64+2)), nameGiven},
		"under a name yet to give":     {holding(g, root, deviceOf(unused*64+4)), underGiven},
		"under it, of the rest 0":      {holding(g, root, deviceOf(unused*64)), underGiven},
		"two steps under it":           {holding(g, shelf, deviceOf((unused*64+4)*64+7)), underGiven},
		"six steps under it":           {holding(g, root, deviceOf(1<<42|63<<36)), underGiven},
		"six steps under the next one": {holding(g, root, deviceOf(1<<42|6<<36|1<<30-1)), underGiven},
		"under a name of one within":   {holding(g, root, deviceOf((house*64+4)*64+1)), underGiven},
		"two steps under such a name":  {holding(g, root, deviceOf(((house*64+4)*64+1)*64+1)), underGiven},
	} {
		wantSound(t, name, row.g, row.breaks)
	}
	for _, none := range [][]api.Thing{nil, {}} {
		if Sound(none) {
			t.Error("no things are SOUND")
		}
	}
}
