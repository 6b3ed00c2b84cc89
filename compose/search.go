package compose

import (
	"slices"

	"studwork/api"
)

// search calls a function with all compositions that have no more pieces than it has returned last, in lexicographic order. The list that it is called with changes after the call.
func (b board) search(visit func([]piece) int) {
	left, most := b.supply(), len(b.full)
	var laid []piece
	var extend func(set)
	extend = func(open set) {
		if open == 0 {
			most = visit(laid)
			return
		}
		if len(laid) == most {
			return
		}
		for _, p := range b.begin[open.first()] {
			if left[p.Plate] == 0 || !open.has(p.covers) {
				continue
			}
			left[p.Plate]--
			laid = append(laid, p)
			extend(open.without(p.covers))
			laid = laid[:len(laid)-1]
			left[p.Plate]++
		}
	}
	extend(b.whole())
}

// Count returns how many compositions there are (P7.2).
func Count(s api.Shape, l []api.Plate) (int, api.Errno) {
	b, e := boardOf(s, l)
	if e != api.OK {
		return 0, e
	}
	n := 0
	b.search(func([]piece) int {
		n++
		return api.MaxFull
	})
	return n, api.OK
}

// Compose returns the best composition that hangs together (P7.3).
func Compose(s api.Shape, l []api.Plate) ([]api.Laid, api.Errno) {
	b, e := boardOf(s, l)
	if e != api.OK {
		return nil, e
	}
	best := b.best()
	if len(best) == 0 {
		return nil, api.ErrNone
	}
	var c []api.Laid
	for _, p := range best {
		c = append(c, p.Laid)
	}
	return c, api.OK
}

// best returns the first composition, in order, that hangs together; none if there is none. Of those with as many pieces that are as weak, the search finds the first one first.
func (b board) best() []piece {
	var best []piece
	most := api.MaxFull
	number := func(l []piece) int { return len(l) }
	b.search(func(found []piece) int {
		better := len(best) == 0 || compareBy(found, best, number, b.weakness) < 0
		if better && b.hangs(found) {
			best, most = slices.Clone(found), len(found)
		}
		return most
	})
	return best
}
