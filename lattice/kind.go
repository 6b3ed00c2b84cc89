package lattice

import (
	"slices"

	"studwork/api"
)

// Sorts of knobs: an odd one fits the next one.
const (
	stud    = 1
	bar     = 3
	pin     = 5
	maxSort = 6
)

// CheckKind returns ErrKind unless a kind is valid.
func CheckKind(k api.Kind) api.Errno {
	if !areCells(k.Cells) || !areKnobs(k.Knobs, k.Cells) || !within(k.Weight, 1, api.MaxWeight) {
		return api.ErrKind
	}
	return api.OK
}

// CheckKinds returns an error unless all kinds are valid.
func CheckKinds(l []api.Kind) api.Errno {
	if len(l) > api.MaxKinds {
		return api.ErrMany
	}
	for _, k := range l {
		if e := CheckKind(k); e != api.OK {
			return e
		}
	}
	return api.OK
}

func areCells(l []api.Cell) bool {
	if !within(len(l), 1, api.MaxCells) {
		return false
	}
	for i, c := range l {
		if !cellWithin(c, 0, api.Extent-1) || i > 0 && compareCells(l[i-1], c) >= 0 {
			return false
		}
	}
	return true
}

func areKnobs(l []api.Knob, cells []api.Cell) bool {
	if len(l) > api.MaxKnobs {
		return false
	}
	for i, k := range l {
		if !isKnob(k, cells) || i > 0 && compareKnobs(l[i-1], k) >= 0 {
			return false
		}
	}
	return true
}

func isKnob(k api.Knob, cells []api.Cell) bool {
	if !isDirection(int(k.Dir)) || !within(int(k.Sort), stud, maxSort) {
		return false
	}
	return slices.Contains(cells, k.At) && !slices.Contains(cells, facing(k))
}

// fit tells whether one of the sorts is odd, and the other one the next.
func fit(a, b uint8) bool {
	lo, hi := min(a, b), max(a, b)
	return lo%2 == 1 && hi == lo+1
}
