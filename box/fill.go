package box

import (
	"cmp"

	"studwork/api"
)

// Fill returns how many needed parts can be filled, and what is short (P8.2).
func Fill(box, needs []api.Item, swaps []api.Swap) (api.Filled, api.Errno) {
	f, e := emptyFilling(box, needs, swaps)
	if e != api.OK {
		return api.Filled{}, e
	}
	for i, x := range needs {
		f.give(i, x.N)
	}
	return api.Filled{Total: f.total(), Short: f.short()}, api.OK
}

// CheckUses returns the total of a filling (P8.2).
func CheckUses(box, needs []api.Item, swaps []api.Swap, uses []api.Use) (int, api.Errno) {
	f, e := emptyFilling(box, needs, swaps)
	if e != api.OK {
		return 0, e
	}
	for i, u := range uses {
		if i > 0 && compareUses(uses[i-1], u) >= 0 || !f.use(u) {
			return 0, api.ErrBad
		}
	}
	return f.total(), api.OK
}

func compareUses(a, b api.Use) int {
	return cmp.Or(cmp.Compare(a.Need, b.Need), cmp.Compare(a.By, b.By))
}

// Uses returns a filling with given counts (P8.3).
func Uses(box, needs []api.Item, swaps []api.Swap, counts []int) ([]api.Use, api.Errno) {
	f, e := emptyFilling(box, needs, swaps)
	if e != api.OK {
		return nil, e
	}
	if !areCounts(counts, needs) {
		return nil, api.ErrArg
	}
	for i, n := range counts {
		if f.give(i, n); f.got[i] < n {
			return nil, api.ErrNone
		}
	}
	return f.uses(), api.OK
}

func areCounts(counts []int, needs []api.Item) bool {
	if len(counts) != len(needs) {
		return false
	}
	for i, n := range counts {
		if !within(n, 0, needs[i].N) {
			return false
		}
	}
	return true
}
