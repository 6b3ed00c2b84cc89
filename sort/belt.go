package sort

import (
	"slices"

	"studwork/api"
)

// none is the bin of what goes off the end, and what stands for a gate or a kind where there is none.
const none = -1

// CheckBelt returns ErrBelt unless a belt is valid (P9.1).
func CheckBelt(b api.Belt) api.Errno {
	if !within(b.Length, 2, api.MaxLong) || !within(b.Camera, 0, b.Length-2) || !within(b.Slow, 0, api.MaxSlow) {
		return api.ErrBelt
	}
	if !areGates(b) || !areBins(b.Bins, api.MaxKinds) {
		return api.ErrBelt
	}
	return api.OK
}

// areGates tells whether the gates of a belt are valid, if its length and its camera are.
func areGates(b api.Belt) bool {
	if len(b.Gates) > api.MaxBins {
		return false
	}
	before := b.Camera
	var taken [api.MaxBins]bool
	for _, g := range b.Gates {
		if !within(g.At, before+1, b.Length-1) || !within(g.Bin, 0, api.MaxBins-1) || taken[g.Bin] {
			return false
		}
		before = g.At
		taken[g.Bin] = true
	}
	return true
}

// areBins tells whether a list has a bin or none for each of some kinds.
func areBins(l []int, kinds int) bool { return areNumbers(l, kinds, none, api.MaxBins-1) }

// gateOf returns the index of the gate of a kind.
func gateOf(b api.Belt, kind int) int {
	if kind == none {
		return none
	}
	return slices.IndexFunc(b.Gates, func(g api.Gate) bool { return g.Bin == b.Bins[kind] })
}
