package steps

import "studwork/api"

// smallPlanOf returns a plan for so few bricks that all of their orders can be searched.
func smallPlanOf(l []api.Kind, m api.Model, r api.Rest) (plan, api.Errno) {
	s, e := siteOf(l, m, r)
	if e != api.OK {
		return plan{}, e
	}
	if len(m.Bricks) > api.MaxPlan {
		return plan{}, api.ErrMany
	}
	return planOf(s), api.OK
}

// firstOrder returns the first good order, and whether there is one.
func (p plan) firstOrder() ([]int, bool) {
	tried := map[set]bool{}
	var order []int
	var extend func(set) bool
	extend = func(there set) bool {
		if tried[there] {
			return false
		}
		tried[there] = true
		if !p.holds(there) {
			return false
		}
		if there == p.whole() {
			return true
		}
		for i := range (p.whole() &^ there).all() {
			if !p.comes(i, there) {
				continue
			}
			order = append(order, i)
			if extend(there.with(i)) {
				return true
			}
			order = order[:len(order)-1]
		}
		return false
	}
	ok := extend(0)
	return order, ok
}

// counter returns a function that counts the good orders of sets of bricks. It remembers those that it has counted.
func (p plan) counter() func(set) int {
	known := map[set]int{0: 1}
	var count func(set) int
	count = func(all set) int {
		if n, ok := known[all]; ok {
			return n
		}
		n := 0
		if p.holds(all) {
			for last := range all.all() {
				if others := all.without(last); p.comes(last, others) {
					n += count(others)
				}
			}
		}
		known[all] = n
		return n
	}
	return count
}

// Count returns the number of good orders.
func Count(l []api.Kind, m api.Model, r api.Rest) (int, api.Errno) {
	p, e := smallPlanOf(l, m, r)
	if e != api.OK {
		return 0, e
	}
	return p.counter()(p.whole()), api.OK
}

// Last returns the bricks that are the last one in a good order.
func Last(l []api.Kind, m api.Model, r api.Rest) ([]int, api.Errno) {
	p, e := smallPlanOf(l, m, r)
	if e != api.OK {
		return nil, e
	}
	return p.lasts().list(), api.OK
}

func (p plan) lasts() set {
	all, count := p.whole(), p.counter()
	if count(all) == 0 {
		return 0
	}
	var found set
	for i := range all.all() {
		if others := all.without(i); p.comes(i, others) && count(others) > 0 {
			found = found.with(i)
		}
	}
	return found
}
