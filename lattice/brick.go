package lattice

import (
	"slices"

	"studwork/api"
)

// body is what is at a place: cells in increasing order, and knobs in the order of those of their kind.
type body struct {
	cells []api.Cell
	knobs []api.Knob
}

// put returns the body of a kind, turned, and then moved.
func put(k api.Kind, turn int, by api.Cell) body {
	turned := chainOf(turn)
	b := body{make([]api.Cell, len(k.Cells)), make([]api.Knob, len(k.Knobs))}
	for i, c := range k.Cells {
		b.cells[i] = add(turned.cell(c), by)
	}
	slices.SortFunc(b.cells, compareCells)
	for i, n := range k.Knobs {
		at := add(turned.cell(n.At), by)
		b.knobs[i] = api.Knob{At: at, Dir: uint8(turned.direction(int(n.Dir))), Sort: n.Sort}
	}
	return b
}

func isBrick(l []api.Kind, b api.Brick) bool {
	return within(b.Kind, 0, len(l)-1) && isPlace(b.At) && isTurn(int(b.Turn)) && b.Color <= api.MaxColor
}

// bodyOf returns the body of a brick, or why it has none.
func bodyOf(l []api.Kind, b api.Brick) (body, api.Errno) {
	if e := CheckKinds(l); e != api.OK {
		return body{}, e
	}
	if !isBrick(l, b) {
		return body{}, api.ErrBrick
	}
	return put(l[b.Kind], int(b.Turn), b.At), api.OK
}

// Cells returns the cells of a brick.
func Cells(l []api.Kind, b api.Brick) ([]api.Cell, api.Errno) {
	p, e := bodyOf(l, b)
	return p.cells, e
}

// Knobs returns the knobs of a brick.
func Knobs(l []api.Kind, b api.Brick) ([]api.Knob, api.Errno) {
	p, e := bodyOf(l, b)
	return p.knobs, e
}
