package graph

import (
	"slices"

	"bailey/api"
	"bailey/dir"
)

// Unlink: a link is dropped, and all that is gone with it.
func Unlink(g []api.Thing, dir, id uint64) ([]api.Thing, []uint64, api.Errno) {
	g = copies(g)
	if err := drop(g, dir, id); err != api.OK {
		return g, nil, err
	}
	// A sound graph has no ring: what no directory links any more is just what can't be reached any more.
	stay, gone := parted(g)
	return stay, gone, api.OK
}

// drop takes a link out of the directory holder.
func drop(g []api.Thing, holder, id uint64) api.Errno {
	at, found := place(g, holder)
	if !found || g[at].Kind != api.Dir {
		return api.ErrGraph
	}
	var err api.Errno
	g[at], err = dir.Drop(g[at], id)
	return err
}

// parted: the things that can be reached, and the IDs of the others.
func parted(g []api.Thing) (stay []api.Thing, gone []uint64) {
	for at, is := range reached(g) {
		if is {
			stay = append(stay, g[at])
		} else {
			gone = append(gone, g[at].ID)
		}
	}
	return stay, gone
}

// Mend: what can't be is dropped.
func Mend(g []api.Thing) []api.Thing {
	g = copies(g)
	for at, d := range g {
		g[at].Links = slices.DeleteFunc(d.Links, func(l api.Link) bool { return !mayLink(g, d.ID, l) })
	}
	g, _ = parted(g)
	for at, rest := range greatestRests(g) {
		g[at].Next = max(g[at].Next, rest)
	}
	return g
}
