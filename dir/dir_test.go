package dir

import (
	"math"
	"math/rand"
	"slices"
	"testing"

	"bailey/api"
	"bailey/thing"
)

// P12.3
func TestChapterExample(t *testing.T) {
	d := api.Thing{ID: 1, Kind: api.Dir, Label: api.Label{Def: api.Plain}, Quota: 4}
	after := d
	after.Next, after.Links = 1, []api.Link{link(65, 3)}
	wantAnswer(t, "Born of 3", asBorn(d, 3), answer{after, 65, api.OK})
	wantAnswer(t, "Born of 1", asBorn(after, 1), answer{after, 0, api.ErrQuota})
}

// P12.1
func TestUsed(t *testing.T) {
	for name, row := range map[string]struct {
		d    api.Thing
		want int
	}{
		"no link":                 {of(48), 1},
		"no link, and no room":    {of(1), 1},
		"one":                     {of(48, link(9, 1)), 2},
		"one, of all that is":     {of(48, link(9, 47)), 48},
		"two":                     {of(20, link(9, 3), link(10, 5)), 9},
		"16":                      {of(48, ones(16)...), 17},
		"16, full":                {of(48, append(ones(15), link(999, 32))...), 48},
		"names are no quota":      {named(of(48, link(9, 3)), 1, 63), 4},
		"nor are IDs":             {named(of(48, link(lastID, 3)), lastID, 5), 4},
		"15 of one, one of three": {of(48, append(ones(15), link(lastID, 3))...), 19},
	} {
		if got := Used(row.d); got != row.want {
			t.Errorf("%s: %d, not %d", name, got, row.want)
		}
	}
}

// P12.1
func TestHas(t *testing.T) {
	for _, links := range [][]api.Link{
		nil, {link(9, 1)}, {link(1, 1)}, {link(lastID, 1)}, {link(1, 1), link(lastID, 1)}, {link(5, 2), link(6, 3), link(9, 1)},
		{link(193, 1), link(195, 1)}, {link(1<<32, 1), link(1<<32+9, 1)}, ones(15), ones(16),
	} {
		d := of(48, links...)
		asked := []uint64{0, 1, d.ID, 193, lastID, lastID + 1, math.MaxUint64}
		for _, l := range links {
			asked = append(asked, l.ID, l.ID-1, l.ID+1, l.ID+256, l.ID+1<<32, l.ID+1<<48, l.ID+1<<63, uint64(l.Quota))
		}
		for _, id := range asked {
			want := slices.IndexFunc(links, func(l api.Link) bool { return l.ID == id }) >= 0
			if got := Has(d, id); got != want {
				t.Errorf("of %v has it %d: %v", links, id, got)
			}
		}
	}
}

// P12.2
func TestFresh(t *testing.T) {
	const deep = uint64(1) << 42
	for _, row := range []struct {
		id   uint64
		next int
		want uint64
		err  api.Errno
	}{
		{1, 0, 65, api.OK},
		{1, 1, 66, api.OK},
		{1, 62, 127, api.OK},
		{1, 63, 0, api.ErrNames},
		{2, 0, 129, api.OK},
		{65, 0, 4161, api.OK},
		{deep - 2, 62, lastID - 64, api.OK},
		{deep - 1, 0, lastID - 62, api.OK},
		{deep - 1, 62, lastID, api.OK},
		{deep - 1, 63, 0, api.ErrNames},
		{deep, 0, 0, api.ErrNames},
		{deep, 62, 0, api.ErrNames},
		{deep, 63, 0, api.ErrNames},
		{deep + 1, 0, 0, api.ErrNames},
		{lastID, 0, 0, api.ErrNames},
		{lastID, 62, 0, api.ErrNames},
		{lastID, 63, 0, api.ErrNames},
	} {
		// What it has, and how much room is left, isn't asked.
		for _, d := range []api.Thing{of(48), of(1), of(48, ones(16)...), of(2, link(65, 1)), of(48, link(lastID, 1))} {
			if got, err := Fresh(named(d, row.id, row.next)); got != row.want || err != row.err {
				t.Errorf("of %d, which gave %d names: %d, %d, not %d, %d", row.id, row.next, got, err, row.want, row.err)
			}
		}
	}
}

// P12.2: names of unlike directories, and unlike names of one, are unlike; they are names that a thing may have.
func TestNamesAreUnlike(t *testing.T) {
	var ids []uint64
	for i := range uint64(300) {
		ids = append(ids, 1+i, api.MaxDeep-1-i)
	}
	for i := 9; i < 42; i++ {
		ids = append(ids, 1<<i, 1<<i+1)
	}
	slices.Sort(ids)
	seen := map[uint64]bool{}
	for _, id := range slices.Compact(ids) {
		for next := range 63 {
			name, err := Fresh(named(of(48), id, next))
			if err != api.OK || seen[name] || name <= id || name > lastID || name/64 != id || name%64 != uint64(next+1) {
				t.Fatalf("of %d, which gave %d names: %d, %d", id, next, name, err)
			}
			seen[name] = true
		}
	}
}

// P12.3: a new link ahead of all, between, behind all.
func TestAddPlaces(t *testing.T) {
	five, nine, new := link(5, 2), link(9, 3), func(id uint64) api.Link { return link(id, 4) }
	for name, row := range map[string]struct{ had, want []api.Link }{
		"to none":          {nil, []api.Link{new(7)}},
		"to none, least":   {nil, []api.Link{new(1)}},
		"to none, most":    {nil, []api.Link{new(lastID)}},
		"ahead":            {[]api.Link{five, nine}, []api.Link{new(4), five, nine}},
		"ahead, least":     {[]api.Link{five, nine}, []api.Link{new(1), five, nine}},
		"behind the first": {[]api.Link{five, nine}, []api.Link{five, new(6), nine}},
		"ahead of another": {[]api.Link{five, nine}, []api.Link{five, new(8), nine}},
		"behind":           {[]api.Link{five, nine}, []api.Link{five, nine, new(10)}},
		"behind, most":     {[]api.Link{five, nine}, []api.Link{five, nine, new(lastID)}},
		"its own":          {[]api.Link{link(1, 1), five}, []api.Link{link(1, 1), new(3), five}},
		"IDs above 2^32":   {[]api.Link{five, link(1<<32+7, 1)}, []api.Link{five, new(1 << 32), link(1<<32+7, 1)}},
	} {
		at := slices.IndexFunc(row.want, func(l api.Link) bool { return l.Quota == 4 })
		wantAnswer(t, name, asAdd(of(48, row.had...), row.want[at].ID, 4), answer{of(48, row.want...), 0, api.OK})
	}
	for i := range 16 {
		had := slices.Delete(ones(16), i, i+1)
		wantAnswer(t, "the 16th link", asAdd(of(48, had...), uint64(10*i+10), 1), answer{of(48, ones(16)...), 0, api.OK})
	}
}

// P12.3: of several errors the one that is named first; d is then answered as it is.
func TestAddErrors(t *testing.T) {
	some, full := []api.Link{link(5, 2), link(9, 3)}, ones(16)
	for name, row := range map[string]struct {
		d     api.Thing
		id    uint64
		quota int
		err   api.Errno
	}{
		"twice":                              {of(48, some...), 5, 1, api.ErrTwice},
		"twice, the last":                    {of(48, some...), 9, 3, api.ErrTwice},
		"twice, and no room":                 {of(6, some...), 9, 1, api.ErrTwice},
		"twice, and more than is left":       {of(8, some...), 9, 3, api.ErrTwice},
		"twice, and of 0":                    {of(48, some...), 9, 0, api.ErrTwice},
		"twice, and of less than 0":          {of(48, some...), 9, -1, api.ErrTwice},
		"twice, and of the most":             {of(48, some...), 9, math.MaxInt, api.ErrTwice},
		"twice, and 16 links":                {of(48, full...), 10, 1, api.ErrTwice},
		"twice, the last of 16":              {of(48, full...), 160, 1, api.ErrTwice},
		"twice, 16 links, and no room":       {of(17, full...), 80, 1, api.ErrTwice},
		"twice, 16 links, and of 0":          {of(48, full...), 80, 0, api.ErrTwice},
		"16 links":                           {of(48, full...), 11, 1, api.ErrLinks},
		"16 links, ahead":                    {of(48, full...), 9, 1, api.ErrLinks},
		"16 links, behind":                   {of(48, full...), 161, 1, api.ErrLinks},
		"16 links, and no room":              {of(17, full...), 11, 1, api.ErrLinks},
		"16 links, and more than is left":    {of(48, full...), 11, 32, api.ErrLinks},
		"16 links, and of 0":                 {of(48, full...), 11, 0, api.ErrLinks},
		"16 links, and of less than 0":       {of(48, full...), 11, -1, api.ErrLinks},
		"16 links, and of the most":          {of(48, full...), 11, math.MaxInt, api.ErrLinks},
		"no room":                            {of(6, some...), 7, 1, api.ErrQuota},
		"no room at all":                     {of(1), 7, 1, api.ErrQuota},
		"no room, and of 0":                  {of(6, some...), 7, 0, api.ErrQuota},
		"no room, 15 links":                  {of(16, ones(15)...), 7, 1, api.ErrQuota},
		"15 links, and one more than left":   {of(48, ones(15)...), 7, 33, api.ErrQuota},
		"one more than is left of 48":        {of(48), 7, 48, api.ErrQuota},
		"more than is left, of another's ID": {of(48, some...), 3, 43, api.ErrQuota},
	} {
		wantAnswer(t, name, asAdd(row.d, row.id, row.quota), answer{row.d, 0, row.err})
	}
}

// P12.3
func TestAddQuotas(t *testing.T) {
	const left = 4
	d := of(10, link(5, 2), link(9, 3))
	for _, quota := range []int{
		0, -1, -2, -left, -6, -7, -10, -48, math.MinInt, math.MinInt + 1, math.MinInt + 6, math.MinInt + 10, math.MinInt + 11,
		left + 1, left + 2, 9, 10, 11, 47, 48, 49, 256 + 1, 1<<16 + 1, 1<<32 + 1, 1 << 62, 1<<62 + 1,
		math.MaxInt, math.MaxInt - 1, math.MaxInt - 4, math.MaxInt - 5, math.MaxInt - 6, math.MaxInt - 7, math.MaxInt - 10,
	} {
		wantAnswer(t, "a quota that can't be", asAdd(d, 7, quota), answer{d, 0, api.ErrQuota})
		wantAnswer(t, "a quota that can't be", asBorn(d, quota), answer{d, 0, api.ErrQuota})
	}
	for quota := 1; quota <= left; quota++ {
		want := of(10, link(5, 2), link(7, quota), link(9, 3))
		wantAnswer(t, "a quota", asAdd(d, 7, quota), answer{want, 0, api.OK})
	}
	for quota := 1; quota <= 48; quota++ {
		for used := 1; used <= quota; used++ {
			d := of(quota)
			if used > 1 {
				d = of(quota, link(5, used-1))
			}
			wantWords(t, d, []uint64{5, 7}, []int{0, 1, quota - used - 1, quota - used, quota - used + 1, quota, quota + 1})
		}
	}
}

// P12.3
func TestBorn(t *testing.T) {
	const deep = uint64(1) << 42
	full := ones(16)
	taken, takenFull := of(48, link(193, 1)), of(17, append(ones(15), link(193, 1))...)
	for name, row := range map[string]struct {
		d     api.Thing
		quota int
		want  answer
	}{
		"the first name": {of(48), 2, answer{named(of(48, link(193, 2)), 3, 1), 193, api.OK}},
		"the last name":  {named(of(48), 3, 62), 2, answer{named(of(48, link(255, 2)), 3, 63), 255, api.OK}},
		"all room":       {of(48), 47, answer{named(of(48, link(193, 47)), 3, 1), 193, api.OK}},
		"ahead": {of(48, link(194, 1), link(200, 1)), 2,
			answer{named(of(48, link(193, 2), link(194, 1), link(200, 1)), 3, 1), 193, api.OK}},
		"between": {named(of(48, link(5, 1), link(193, 1), link(999, 1)), 3, 1), 2,
			answer{named(of(48, link(5, 1), link(193, 1), link(194, 2), link(999, 1)), 3, 2), 194, api.OK}},
		"the deepest": {named(of(48, link(5, 1)), deep-1, 62), 2, answer{named(of(48, link(5, 1), link(lastID, 2)), deep-1, 63), lastID, api.OK}},

		"no name":                        {named(of(48), 3, 63), 1, answer{named(of(48), 3, 63), 0, api.ErrNames}},
		"too deep":                       {named(of(48), deep, 0), 1, answer{named(of(48), deep, 0), 0, api.ErrNames}},
		"too deep, at the end":           {named(of(48), lastID, 7), 1, answer{named(of(48), lastID, 7), 0, api.ErrNames}},
		"no name, 16 links, no room":     {named(of(17, full...), 3, 63), 1, answer{named(of(17, full...), 3, 63), 0, api.ErrNames}},
		"no name, of 0":                  {named(of(48), 3, 63), 0, answer{named(of(48), 3, 63), 0, api.ErrNames}},
		"the name is there":              {taken, 1, answer{taken, 0, api.ErrTwice}},
		"the name is there, and of 0":    {taken, 0, answer{taken, 0, api.ErrTwice}},
		"it is there, 16 links, no room": {takenFull, 1, answer{takenFull, 0, api.ErrTwice}},
		"16 links":                       {of(48, full...), 1, answer{of(48, full...), 0, api.ErrLinks}},
		"16 links, no room":              {of(17, full...), 1, answer{of(17, full...), 0, api.ErrLinks}},
		"16 links, of 0":                 {of(48, full...), 0, answer{of(48, full...), 0, api.ErrLinks}},
		"of 0":                           {of(48), 0, answer{of(48), 0, api.ErrQuota}},
		"of less than 0":                 {of(48), -1, answer{of(48), 0, api.ErrQuota}},
		"no room":                        {of(1), 1, answer{of(1), 0, api.ErrQuota}},
		"one more than is left":          {of(48), 48, answer{of(48), 0, api.ErrQuota}},
		"the most":                       {of(48), math.MaxInt, answer{of(48), 0, api.ErrQuota}},
	} {
		wantAnswer(t, name, asBorn(row.d, row.quota), row.want)
	}
}

// P12.3: names are given again and again, till no link is left, or no room.
func TestBornTillItEnds(t *testing.T) {
	for name, row := range map[string]struct {
		d     api.Thing
		quota int
		count int
		err   api.Errno
	}{
		"no link":              {of(48), 1, 16, api.ErrLinks},
		"no link, and no room": {of(17), 1, 16, api.ErrLinks},
		"no room":              {of(16), 1, 15, api.ErrQuota},
		"no room for 3":        {of(48), 3, 15, api.ErrQuota},
		"no room for 5":        {of(48), 5, 9, api.ErrQuota},
		"no room for one":      {of(48), 47, 1, api.ErrQuota},
		"no name":              {named(of(48), 3, 60), 1, 3, api.ErrNames},
		"no name, no link":     {named(of(48), 3, 47), 1, 16, api.ErrNames},
	} {
		d := row.d
		for i := range row.count {
			a := asBorn(d, row.quota)
			want := named(of(d.Quota, append(slices.Clone(d.Links), link(uint64(193+d.Next), row.quota))...), 3, d.Next+1)
			wantAnswer(t, name, a, answer{want, uint64(193 + row.d.Next + i), api.OK})
			d = a.d
		}
		for range 3 {
			wantAnswer(t, name, asBorn(d, row.quota), answer{d, 0, row.err})
		}
	}
}

// P12.2, P12.3: a name that was given is never given again, though what had it was dropped.
func TestBornTillNoNameIsLeft(t *testing.T) {
	d := of(2)
	for i := range 63 {
		a := asBorn(d, 1)
		wantAnswer(t, "Born", a, answer{named(of(2, link(uint64(193+i), 1)), 3, i+1), uint64(193 + i), api.OK})
		wantAnswer(t, "Born, and no room", asBorn(a.d, 1), bornByWords(a.d, 1))
		b := asDrop(a.d, a.name)
		wantAnswer(t, "Drop", b, answer{named(of(2), 3, i+1), 0, api.OK})
		d = b.d
	}
	wantAnswer(t, "Born of no name", asBorn(d, 1), answer{d, 0, api.ErrNames})
	added := asAdd(d, 193, 1)
	wantAnswer(t, "Add needs no name", added, answer{named(of(2, link(193, 1)), 3, 63), 0, api.OK})
}

// P12.3
func TestDrop(t *testing.T) {
	one, five, nine := link(1, 4), link(5, 2), link(9, 3)
	d := named(of(48, one, five, nine), 3, 7)
	for name, row := range map[string]struct {
		d    api.Thing
		id   uint64
		want answer
	}{
		"the first":         {d, 1, answer{named(of(48, five, nine), 3, 7), 0, api.OK}},
		"one between":       {d, 5, answer{named(of(48, one, nine), 3, 7), 0, api.OK}},
		"the last":          {d, 9, answer{named(of(48, one, five), 3, 7), 0, api.OK}},
		"the only one":      {of(3, five), 5, answer{of(3), 0, api.OK}},
		"of no room":        {of(10, one, five, nine), 5, answer{of(10, one, nine), 0, api.OK}},
		"with no name left": {named(of(48, five), 3, 63), 5, answer{named(of(48), 3, 63), 0, api.OK}},
		"2^48 - 1":          {of(48, five, link(lastID, 1)), lastID, answer{of(48, five), 0, api.OK}},
		"its own":           {of(48, link(3, 1), five), 3, answer{of(48, five), 0, api.OK}},
		"of none":           {of(48), 5, answer{of(48), 0, api.ErrNone}},
		"0":                 {d, 0, answer{d, 0, api.ErrNone}},
		"ahead":             {of(48, five, nine), 4, answer{of(48, five, nine), 0, api.ErrNone}},
		"between":           {d, 6, answer{d, 0, api.ErrNone}},
		"behind":            {d, 10, answer{d, 0, api.ErrNone}},
		"2^48 - 1, of none": {d, lastID, answer{d, 0, api.ErrNone}},
		"2^48 more":         {d, 5 + 1<<48, answer{d, 0, api.ErrNone}},
		"2^32 more":         {d, 5 + 1<<32, answer{d, 0, api.ErrNone}},
		"the most":          {d, math.MaxUint64, answer{d, 0, api.ErrNone}},
		"itself, unlinked":  {d, 3, answer{d, 0, api.ErrNone}},
	} {
		wantAnswer(t, name, asDrop(row.d, row.id), row.want)
	}
	for i := range 16 {
		a := asDrop(of(48, ones(16)...), uint64(10*i+10))
		wantAnswer(t, "one of 16", a, answer{of(48, slices.Delete(ones(16), i, i+1)...), 0, api.OK})
		wantAnswer(t, "dropped twice", asDrop(a.d, uint64(10*i+10)), answer{a.d, 0, api.ErrNone})
		wantAnswer(t, "added again", asAdd(a.d, uint64(10*i+10), 1), answer{of(48, ones(16)...), 0, api.OK})
	}
}

// P12.1 to P12.3: all small directories about the names that they give.
func TestSmallDirectories(t *testing.T) {
	ids, sizes := []uint64{192, 193, 194, 195, 196, 197, 255}, []int{-1, 0, 1, 2, 3, 4, 9}
	for shape := range 27 {
		var links []api.Link
		for i, id := range []uint64{193, 194, 196} {
			if quota := []int{shape % 3, shape / 3 % 3, shape / 9}[i]; quota > 0 {
				links = append(links, link(id, quota))
			}
		}
		for _, next := range []int{0, 1, 2, 3, 4, 61, 62, 63} {
			for left := range 4 {
				d := named(of(48, links...), 3, next)
				d.Quota = usedByWords(d) + left
				wantWords(t, d, ids, sizes)
			}
		}
	}
}

// P12.1 to P12.3: deeds drawn at random, against the words.
func TestAtRandom(t *testing.T) {
	r := rand.New(rand.NewSource(12))
	met := map[api.Errno]int{}
	for range 400 {
		ids := []uint64{1, 3, 65, 128, 4161, api.MaxDeep - 2, api.MaxDeep - 1, api.MaxDeep, lastID, 1 + uint64(r.Int63n(1<<20))}
		d := named(of(1+r.Intn(48)), ids[r.Intn(len(ids))], r.Intn(64)*r.Intn(2))
		names := []uint64{1, 2, d.ID, lastID, lastID - 1}
		for range 10 + r.Intn(20) {
			names = append(names, 1+uint64(r.Int63n(1<<(1+r.Intn(48))))%lastID)
		}
		for range 60 {
			id, quota := names[r.Intn(len(names))], r.Intn(4)+r.Intn(2)*r.Intn(2)*r.Intn(48)-r.Intn(2)*r.Intn(2)
			var got, want answer
			switch r.Intn(5) {
			case 0, 1:
				got, want = asAdd(d, id, quota), addByWords(d, id, quota)
			case 2, 3:
				got, want = asBorn(d, quota), bornByWords(d, quota)
			case 4:
				if len(d.Links) > 0 && r.Intn(3) > 0 {
					id = d.Links[r.Intn(len(d.Links))].ID
				}
				got, want = asDrop(d, id), dropByWords(d, id)
			}
			wantAnswer(t, "drawn", got, want)
			if t.Failed() {
				t.FailNow()
			}
			met[got.err]++
			d = got.d
			names = append(names, max(got.name, 1))
		}
		wantWords(t, d, names, []int{-1, 0, 1, 2, 48})
	}
	for _, err := range []api.Errno{api.OK, api.ErrQuota, api.ErrLinks, api.ErrTwice, api.ErrNone, api.ErrNames} {
		if met[err] < 50 {
			t.Errorf("%v was met %d times", err, met[err])
		}
	}
}

// anyThings: things that are no Dir, or not Right.
func anyThings() []api.Thing {
	all := []api.Thing{{}, {ID: 3}, {Kind: api.Dir}}
	for _, kind := range []int{math.MinInt, -1, 0, 1, 2, 3, 4, 5, 6, 7, math.MaxInt} {
		for _, n := range []int{math.MinInt, -64, -1, 0, 1, 48, 63, 64, math.MaxInt} {
			for _, id := range []uint64{0, 1, 3, api.MaxDeep, lastID, lastID + 1, math.MaxUint64} {
				all = append(all,
					api.Thing{Kind: kind, ID: id, Quota: n, Next: 5, Links: ones(3)},
					api.Thing{Kind: kind, ID: id, Quota: 48, Next: n, Links: []api.Link{link(9, n), link(5, n), link(9, n), link(0, n), link(math.MaxUint64, n)}},
					api.Thing{Kind: kind, ID: id, Quota: n, Next: n, Links: slices.Repeat([]api.Link{link(id, n)}, 40)},
					api.Thing{Kind: kind, ID: id, Quota: n, Next: n, Links: []api.Link{{}}, Data: make([]byte, 7), Halted: true, Clear: api.Label{Def: 9}})
			}
		}
	}
	return all
}

// P1: of whatever thing, all calls end, and none panics.
func TestOfAnyThing(t *testing.T) {
	long := of(48, make([]api.Link, 1<<20)...)
	falling := of(math.MaxInt, make([]api.Link, 1<<20)...)
	for i := range falling.Links {
		falling.Links[i] = link(uint64(1<<20-i), math.MaxInt-i)
	}
	for _, d := range append(anyThings(), long, falling, of(48, ones(1000)...)) {
		before := thing.Copy(d)
		Used(d)
		Fresh(d)
		for _, id := range []uint64{0, 1, 5, 9, 10, lastID, lastID + 1, math.MaxUint64} {
			Has(d, id)
			Drop(d, id)
			Add(d, id, 1)
		}
		for _, quota := range []int{math.MinInt, -1, 0, 1, 48, 49, math.MaxInt} {
			Add(d, 7, quota)
			Born(d, quota)
		}
		if !thing.Same(d, before) {
			t.Errorf("what was handed in is changed: %+v, not %+v", d, before)
		}
	}
}

// P1: a name that no thing may have is no reason not to end.
func TestOfAnyID(t *testing.T) {
	for _, d := range []api.Thing{of(48), of(1), of(48, ones(3)...), of(48, ones(16)...)} {
		for _, id := range []uint64{0, lastID + 1, 1 << 63, math.MaxUint64} {
			for _, quota := range []int{math.MinInt, -1, 0, 1, 31, 48, math.MaxInt} {
				Add(d, id, quota)
			}
			if Has(d, id) {
				t.Errorf("%+v has %d", d, id)
			}
			wantAnswer(t, "Drop", asDrop(d, id), answer{d, 0, api.ErrNone})
		}
	}
}
