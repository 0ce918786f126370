package graph

import (
	"slices"

	"bailey/api"
	"bailey/thing"
)

// firstID is the ID of the directory that all things hang on.
const firstID = 1

// perDir: an ID over it is that of the directory that gave the name, the rest which of its names it is.
const perDir = api.MaxChild + 1

// Sound: is it a sound graph?
func Sound(g []api.Thing) bool {
	return rises(g) && areRight(g) && len(g) > 0 && g[0].ID == firstID && g[0].Kind == api.Dir &&
		areLinksRight(g) && areLinked(g) && areNamesGiven(g)
}

func rises(g []api.Thing) bool {
	for i := range g {
		if i > 0 && g[i-1].ID >= g[i].ID {
			return false
		}
	}
	return true
}

func areRight(g []api.Thing) bool {
	return !slices.ContainsFunc(g, func(t api.Thing) bool { return !thing.Right(t) })
}

func areLinksRight(g []api.Thing) bool {
	for _, d := range g {
		for _, l := range d.Links {
			if !mayLink(g, d.ID, l) {
				return false
			}
		}
	}
	return true
}

// mayLink: may the directory of an ID have that link? None may link the first one: no directory has the ID 0, and in a sound graph whatever links it would have to have more quota than it, and is held by it.
func mayLink(g []api.Thing, holder uint64, l api.Link) bool {
	at, found := place(g, l.ID)
	return found && g[at].Quota == l.Quota && (g[at].Kind != api.Dir || l.ID/perDir == holder)
}

// areLinked: is each thing but the first one linked? Where links are right a directory is held by one of a lesser ID, and so on down to the first: what is linked can be reached.
func areLinked(g []api.Thing) bool { return !slices.Contains(reached(g), false) }

// reached: which things can be reached from the first one, over links?
func reached(g []api.Thing) []bool {
	seen := make([]bool, len(g))
	for ahead := []uint64{firstID}; len(ahead) > 0; {
		at, found := place(g, ahead[0])
		ahead = ahead[1:]
		if !found || seen[at] {
			continue
		}
		seen[at] = true
		for _, l := range g[at].Links {
			ahead = append(ahead, l.ID)
		}
	}
	return seen
}

func areNamesGiven(g []api.Thing) bool {
	for at, rest := range greatestRests(g) {
		if rest > g[at].Next {
			return false
		}
	}
	return true
}

// greatestRests: of each directory the greatest name, as its Next counts them, that it must have given: that of a thing, or one that a thing is under. Of other things 0.
func greatestRests(g []api.Thing) []int {
	rests := make([]int, len(g))
	for _, t := range g {
		for above := t.ID; above > 0; above /= perDir {
			if at, found := place(g, above/perDir); found && g[at].Kind == api.Dir {
				rests[at] = max(rests[at], int(above%perDir))
			}
		}
	}
	return rests
}
