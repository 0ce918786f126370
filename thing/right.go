package thing

import (
	"slices"

	"bailey/api"
	"bailey/label"
	"bailey/num"
)

const (
	maxID     = 1<<48 - 1
	maxMinted = 31
	maxBoot   = 255
)

// Right: can it be?
func Right(t api.Thing) bool {
	return isID(t.ID) && label.Right(t.Label) && (mayOwn(t.Kind) || isPure(t.Label)) &&
		Same(t, ofKind(t)) && hasRightParts(t)
}

func isID(id uint64) bool { return id >= 1 && id <= maxID }

// mayOwn: may a label of that kind of thing have a Star?
func mayOwn(kind int) bool { return kind == api.Thread || kind == api.Gate }

// isPure: has a label no Star? Its Def is asked by who asks whether it is Right.
func isPure(l api.Label) bool {
	return !slices.ContainsFunc(l.Cats, func(c api.Cat) bool { return c.Level == api.Star })
}

// ofKind: the thing with no more than what its kind has. It shares the lists, so it is for reading alone.
func ofKind(t api.Thing) api.Thing {
	had := api.Thing{ID: t.ID, Kind: t.Kind, Label: t.Label, Quota: t.Quota}
	switch t.Kind {
	case api.Dir:
		had.Next, had.Links = t.Next, t.Links
	case api.Thread:
		had.Clear, had.Regs, had.Minted, had.Boot, had.Halted = t.Clear, t.Regs, t.Minted, t.Boot, t.Halted
	case api.Gate:
		had.Clear, had.Value = t.Clear, t.Value
	case api.Segment:
		had.Data = t.Data
	case api.Space:
		had.Slots = t.Slots
	}
	return had
}

// hasRightParts: is what hangs on its kind as it must be?
func hasRightParts(t api.Thing) bool {
	switch t.Kind {
	case api.Dir:
		return isRightDir(t)
	case api.Thread:
		return t.Quota == 1 && isRightClear(t.Clear) && t.Regs == canons(t.Regs) &&
			isBetween(0, t.Minted, maxMinted) && isBetween(0, t.Boot, maxBoot)
	case api.Gate:
		return t.Quota == 1 && isRightClear(t.Clear) && t.Value == num.Canon(t.Value)
	case api.Segment:
		return len(t.Data)%api.PageSize == 0 && isBetween(1, pages(t), api.MaxPages) && t.Quota == 1+pages(t)
	case api.Space:
		return t.Quota == 1 && areRightSlots(t.Slots)
	case api.Device:
		return t.Quota == 1
	}
	return false
}

func isBetween(low, n, high int) bool { return low <= n && n <= high }

func isRightClear(l api.Label) bool { return label.Right(l) && isPure(l) }

func pages(t api.Thing) int { return len(t.Data) / api.PageSize }

func isRightDir(t api.Thing) bool {
	if !isBetween(0, t.Next, api.MaxChild) || !isBetween(1, t.Quota, api.MaxQuota) || len(t.Links) > api.MaxLinks {
		return false
	}
	last, used := uint64(0), 1
	for _, l := range t.Links {
		// Each quota is asked for itself, so that their sum can't go round.
		if l.ID <= last || !isID(l.ID) || !isBetween(1, l.Quota, api.MaxQuota) {
			return false
		}
		last = l.ID
		used += l.Quota
	}
	return used <= t.Quota
}

func canons(regs [4]uint64) [4]uint64 {
	for i, bits := range regs {
		regs[i] = num.Canon(bits)
	}
	return regs
}

func areRightSlots(slots [4]api.Slot) bool {
	for _, s := range slots {
		if s != (api.Slot{}) && !(isID(s.Dir) && isID(s.Seg)) {
			return false
		}
	}
	return true
}
