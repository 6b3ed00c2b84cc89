package sort

import (
	"cmp"
	"slices"

	"studwork/api"
)

const maxPasses = 11

// arePassCounts tells whether there are such numbers of bins and of parts of each kind.
func arePassCounts(counts []int, bins int) bool {
	return within(bins, 2, api.MaxBins) && within(len(counts), 1, api.MaxCounts) && areNumbers(counts, len(counts), 0, api.MaxNumber)
}

// Cost returns the cost of a plan for passes (P9.4).
func Cost(counts, passes []int, bins int) (int, api.Errno) {
	if !arePassCounts(counts, bins) || !areNumbers(passes, len(counts), 0, maxPasses) {
		return 0, api.ErrArg
	}
	if !canBeDone(passes, bins) {
		return 0, api.ErrNone
	}
	cost := 0
	for i, n := range passes {
		cost += counts[i] * n
	}
	return cost, api.OK
}

// canBeDone adds up what each kind needs of all the ways through the bins, in parts of the finest size, which are whole numbers.
func canBeDone(passes []int, bins int) bool {
	need := 0
	for _, n := range passes {
		need += power(bins, maxPasses-n)
	}
	return need <= power(bins, maxPasses)
}

// group is kinds that come into one bin together at first, and how many parts they have.
type group struct {
	kinds []int
	parts int
}

func compareGroups(a, b group) int { return cmp.Compare(a.parts, b.parts) }

// Plan returns a plan for passes with the least cost, and the cost (P9.4).
func Plan(counts []int, bins int) ([]int, int, api.Errno) {
	if !arePassCounts(counts, bins) {
		return nil, 0, api.ErrArg
	}
	var groups []group
	for kind, n := range counts {
		groups = insert(groups, group{[]int{kind}, n}, compareGroups)
	}
	passes, cost := make([]int, len(counts)), 0
	for take := firstTake(len(groups), bins); len(groups) > 1; take = bins {
		g := together(groups[:take])
		for _, kind := range g.kinds {
			passes[kind]++
		}
		cost += g.parts
		groups = insert(groups[take:], g, compareGroups)
	}
	return passes, cost, api.OK
}

// firstTake returns how many of some groups are put together first, so that all bins are full each time after that.
func firstTake(groups, bins int) int { return 2 + max(0, groups-2)%(bins-1) }

// together returns the group of some groups that one pass takes apart.
func together(l []group) group {
	var all group
	for _, g := range l {
		all.kinds = slices.Concat(all.kinds, g.kinds)
		all.parts += g.parts
	}
	return all
}
