package box

import (
	"cmp"
	"slices"

	"studwork/api"
)

// choice is a set of plans that can be built of a box together, their value, and what is left of the box.
type choice struct {
	set
	value int
	left  []api.Item
}

// compareChoices is less than 0 if the first one of two choices is the better one.
func compareChoices(a, b choice) int {
	x, y := a.list(), b.list()
	return cmp.Or(cmp.Compare(b.value, a.value), cmp.Compare(len(x), len(y)), slices.Compare(x, y))
}

// checkPlans returns the errors of plans and their values, whose stocks are checked already.
func checkPlans(plans [][]api.Item, values []int) api.Errno {
	if len(plans) > api.MaxPlans {
		return api.ErrMany
	}
	if len(values) != len(plans) {
		return api.ErrArg
	}
	for _, n := range values {
		if !within(n, 0, api.MaxValue) {
			return api.ErrArg
		}
	}
	return api.OK
}

// choices returns all choices that there are. The set of no plans always is one.
func choices(box []api.Item, plans [][]api.Item, values []int) []choice {
	var l []choice
	for s := range sets(len(plans)) {
		if c, ok := choose(box, plans, values, s); ok {
			l = append(l, c)
		}
	}
	return l
}

// choose returns a set of plans as a choice, and false if it can not be built. The plans are taken out of the box one by one, since their sum may be no stock.
func choose(box []api.Item, plans [][]api.Item, values []int, s set) (choice, bool) {
	c := choice{set: s, left: slices.Clone(box)}
	for _, i := range s.list() {
		left, ok := rest(c.left, plans[i])
		if !ok {
			return choice{}, false
		}
		c.left = left
		c.value += values[i]
	}
	return c, true
}

// Choose returns the plans that are worth most (P8.5).
func Choose(box []api.Item, plans [][]api.Item, values []int) (api.Choice, api.Errno) {
	if e := cmp.Or(Check(box), checkAll(plans...), checkPlans(plans, values)); e != api.OK {
		return api.Choice{}, e
	}
	best := slices.MinFunc(choices(box, plans, values), compareChoices)
	return api.Choice{Take: best.list(), Value: best.value, Left: best.left}, api.OK
}

// share is who builds each plan, and the value of all that are built.
type share struct {
	by    []uint8
	value int
}

// compareShares is less than 0 if the first one of two shares is the better one.
func compareShares(a, b share) int {
	return cmp.Or(cmp.Compare(b.value, a.value), slices.Compare(a.by, b.by))
}

// shareOf returns the share of n plans of two choices that have none in common.
func shareOf(a, b choice, n int) share {
	s := share{make([]uint8, n), a.value + b.value}
	for _, i := range a.list() {
		s.by[i] = 1
	}
	for _, i := range b.list() {
		s.by[i] = 2
	}
	return s
}

// shares returns all shares of n plans that two lists of choices allow.
func shares(first, second []choice, n int) []share {
	var l []share
	for _, a := range first {
		for _, b := range second {
			if a.set&b.set == 0 {
				l = append(l, shareOf(a, b, n))
			}
		}
	}
	return l
}

// Share returns who builds which plan (P8.5).
func Share(a, b []api.Item, plans [][]api.Item, values []int) ([]uint8, int, api.Errno) {
	if e := cmp.Or(checkAll(a, b), checkAll(plans...), checkPlans(plans, values)); e != api.OK {
		return nil, 0, e
	}
	l := shares(choices(a, plans, values), choices(b, plans, values), len(plans))
	best := slices.MinFunc(l, compareShares)
	return best.by, best.value, api.OK
}
