package label

import "bailey/api"

// hasForm: are Cats as Make makes them: rising by ID, each once, none with the level Def?
func hasForm(l api.Label) bool {
	for i, c := range l.Cats {
		if c.Level == l.Def || i > 0 && c.ID <= l.Cats[i-1].ID {
			return false
		}
	}
	return true
}

// formed: the same levels as Cats of Make's form. It may be the label's own list, so it is for reading alone.
func formed(l api.Label) []api.Cat {
	if hasForm(l) {
		return l.Cats
	}
	return Make(l.Def, l.Cats...).Cats
}

// walk visits each category that has another level than Def in either label, rising by ID, with its levels in both.
func walk(a, b api.Label, visit func(id uint64, x, y int)) {
	left, right := formed(a), formed(b)
	for len(left) > 0 || len(right) > 0 {
		id := leastID(left, right)
		var x, y int
		x, left = levelAhead(a.Def, left, id)
		y, right = levelAhead(b.Def, right, id)
		visit(id, x, y)
	}
}

// leastID: the least ID of two rising lists, not both of which are empty.
func leastID(left, right []api.Cat) uint64 {
	if len(right) == 0 || len(left) > 0 && left[0].ID < right[0].ID {
		return left[0].ID
	}
	return right[0].ID
}

// levelAhead: the level of an ID that none of a rising list stands ahead of, and what of the list is behind it.
func levelAhead(def int, cats []api.Cat, id uint64) (int, []api.Cat) {
	if len(cats) > 0 && cats[0].ID == id {
		return cats[0].Level, cats[1:]
	}
	return def, cats
}

// chosen: the label each of whose levels is chosen from those of two.
func chosen(a, b api.Label, choose func(x, y int) int) api.Label {
	l := api.Label{Def: choose(a.Def, b.Def)}
	walk(a, b, func(id uint64, x, y int) {
		if level := choose(x, y); level != l.Def {
			l.Cats = append(l.Cats, api.Cat{ID: id, Level: level})
		}
	})
	return l
}

// holds: does something hold for both Defs, and for both levels of each category?
func holds(a, b api.Label, hold func(x, y int) bool) bool {
	// A category that the walk passes by has the level Def in both.
	all := hold(a.Def, b.Def)
	walk(a, b, func(_ uint64, x, y int) { all = all && hold(x, y) })
	return all
}

// turned: the label in which each level from has become the level to.
func turned(l api.Label, from, to int) api.Label {
	turn := func(level int) int {
		if level == from {
			return to
		}
		return level
	}
	cats := make([]api.Cat, len(l.Cats))
	for i, c := range l.Cats {
		cats[i] = api.Cat{ID: c.ID, Level: turn(c.Level)}
	}
	return Make(turn(l.Def), cats...)
}
