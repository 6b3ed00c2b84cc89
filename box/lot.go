package box

import "studwork/api"

// checkWishes returns ErrArg unless the wishes of all traders are all lots, each once.
func checkWishes(wishes [][]int) api.Errno {
	if !within(len(wishes), 1, api.MaxLots) {
		return api.ErrArg
	}
	for _, l := range wishes {
		if !eachOnce(l, len(wishes)) {
			return api.ErrArg
		}
	}
	return api.OK
}

// eachOnce tells whether a list has each of n lots once.
func eachOnce(l []int, n int) bool {
	if len(l) != n {
		return false
	}
	var seen set
	for _, lot := range l {
		if !within(lot, 0, n-1) || seen.has(lot) {
			return false
		}
		seen = seen.with(lot)
	}
	return true
}

// Trade returns which lot each trader gets (P8.6).
func Trade(wishes [][]int) ([]int, api.Errno) {
	if e := checkWishes(wishes); e != api.OK {
		return nil, e
	}
	lots := make([]int, len(wishes))
	for left := firsts(len(wishes)); left != 0; {
		at := left.first()
		for range wishes { // after so many steps it is on a circle
			at = favourite(wishes[at], left)
		}
		var gone set
		for !gone.has(at) {
			gone = gone.with(at)
			lots[at] = favourite(wishes[at], left)
			at = lots[at]
		}
		left &^= gone
	}
	return lots, api.OK
}

// favourite returns the first lot of a list of wishes that is in a set, which is not empty.
func favourite(wishes []int, left set) int {
	for _, lot := range wishes {
		if left.has(lot) {
			return lot
		}
	}
	return 0
}

// Better returns whether a group does better than a trade (P8.6).
func Better(wishes [][]int, trade []int, group uint8) (bool, api.Errno) {
	if e := checkWishes(wishes); e != api.OK {
		return false, e
	}
	if !eachOnce(trade, len(wishes)) {
		return false, api.ErrBad
	}
	g := set(group)
	if g == 0 || g&^firsts(len(wishes)) != 0 {
		return false, api.ErrArg
	}
	return doesBetter(wishes, trade, g), api.OK
}

// doesBetter lets each trader of a group get a lot of the group that it likes at least as much as its own in the trade, until one of them likes its lot more.
func doesBetter(wishes [][]int, trade []int, group set) bool {
	var give func(traders, lots set, gain bool) bool
	give = func(traders, lots set, gain bool) bool {
		if traders == 0 {
			return gain
		}
		t := traders.first()
		for _, lot := range wishes[t] {
			if lots.has(lot) && give(traders.without(t), lots.without(lot), gain || lot != trade[t]) {
				return true
			}
			if lot == trade[t] {
				break
			}
		}
		return false
	}
	return give(group, group, false)
}
