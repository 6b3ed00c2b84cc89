package lattice

import (
	"iter"
	"slices"

	"studwork/api"
)

// looks yields the turns, each with the body of a kind that is turned so, with its knobs in increasing order.
func looks(k api.Kind) iter.Seq2[int, body] {
	return func(yield func(int, body) bool) {
		for n := range api.MaxTurns {
			if !yield(n, put(k, n, api.Cell{}).sorted()) {
				return
			}
		}
	}
}

// sorted returns a body whose knobs are in increasing order.
func (b body) sorted() body {
	knobs := slices.Clone(b.knobs)
	slices.SortFunc(knobs, compareKnobs)
	return body{b.cells, knobs}
}

// stepTo returns the step by which a body has to be moved to be the same as another one of its kind, if there is one. Moving keeps the order of cells, so that only the step from the first to the first can do.
func (b body) stepTo(o body) (api.Cell, bool) {
	by := sub(o.cells[0], b.cells[0])
	for i, c := range b.cells {
		if add(c, by) != o.cells[i] {
			return api.Cell{}, false
		}
	}
	for i, k := range b.knobs {
		k.At = add(k.At, by)
		if k != o.knobs[i] {
			return api.Cell{}, false
		}
	}
	return by, true
}

// Symmetries returns the symmetries of a kind.
func Symmetries(k api.Kind) ([]int, api.Errno) {
	if e := CheckKind(k); e != api.OK {
		return nil, e
	}
	var found []int
	for n, b := range looks(k) {
		if _, same := b.stepTo(body{k.Cells, k.Knobs}); same {
			found = append(found, n)
		}
	}
	return found, api.OK
}

// Normal returns the brick with the least turn that looks like a brick.
func Normal(l []api.Kind, b api.Brick) (api.Brick, api.Errno) {
	wanted, e := bodyOf(l, b)
	if e != api.OK {
		return api.Brick{}, e
	}
	wanted = wanted.sorted()
	for n, p := range looks(l[b.Kind]) {
		if at, same := p.stepTo(wanted); same {
			return normalAt(b, n, at), api.OK
		}
	}
	return b, api.OK
}

// normalAt returns a brick, turned by n and placed at a place, if that is in range, and the brick itself otherwise.
func normalAt(b api.Brick, n int, at api.Cell) api.Brick {
	if !isPlace(at) {
		return b
	}
	b.At, b.Turn = at, uint8(n)
	return b
}
