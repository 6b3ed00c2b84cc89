package lattice

import (
	"slices"

	"studwork/api"
)

// bodiesOf returns the bodies of bricks, which may overlap.
func bodiesOf(l []api.Kind, m api.Model) ([]body, api.Errno) {
	if e := CheckKinds(l); e != api.OK {
		return nil, e
	}
	if len(m.Bricks) > api.MaxBricks {
		return nil, api.ErrMany
	}
	if !areBricks(l, m.Bricks) {
		return nil, api.ErrBrick
	}
	all := make([]body, len(m.Bricks))
	for i, b := range m.Bricks {
		all[i] = put(l[b.Kind], int(b.Turn), b.At)
	}
	return all, api.OK
}

func areBricks(l []api.Kind, bricks []api.Brick) bool {
	return !slices.ContainsFunc(bricks, func(b api.Brick) bool { return !isBrick(l, b) })
}

// validBodies returns the bodies of the bricks of a valid model.
func validBodies(l []api.Kind, m api.Model) ([]body, api.Errno) {
	all, e := bodiesOf(l, m)
	if e == api.OK && len(overlaps(all)) > 0 {
		return nil, api.ErrOverlap
	}
	return all, e
}

// owners returns the bricks in each cell, in increasing order.
func owners(all []body) map[api.Cell][]int {
	in := map[api.Cell][]int{}
	for i, b := range all {
		for _, c := range b.cells {
			in[c] = append(in[c], i)
		}
	}
	return in
}

func overlaps(all []body) [][2]int {
	in := owners(all)
	var pairs [][2]int
	for b := range all {
		var common [api.MaxBricks]bool
		for _, c := range all[b].cells {
			for _, o := range in[c] {
				common[o] = true
			}
		}
		for o := b + 1; o < len(all); o++ {
			if common[o] {
				pairs = append(pairs, [2]int{b, o})
			}
		}
	}
	return pairs
}

// Overlaps returns the pairs of bricks that overlap.
func Overlaps(l []api.Kind, m api.Model) ([][2]int, api.Errno) {
	all, e := bodiesOf(l, m)
	if e != api.OK {
		return nil, e
	}
	return overlaps(all), api.OK
}

// Check returns an error unless a model is valid.
func Check(l []api.Kind, m api.Model) api.Errno {
	_, e := validBodies(l, m)
	return e
}

// Bounds returns the least and the greatest coordinates of a model.
func Bounds(l []api.Kind, m api.Model) (api.Span, api.Errno) {
	all, e := validBodies(l, m)
	if e != api.OK || len(all) == 0 {
		return api.Span{}, e
	}
	first := all[0].cells[0]
	s := api.Span{Lo: first, Hi: first}
	for _, b := range all {
		for _, c := range b.cells {
			s.Lo = api.Cell{X: min(s.Lo.X, c.X), Y: min(s.Lo.Y, c.Y), Z: min(s.Lo.Z, c.Z)}
			s.Hi = api.Cell{X: max(s.Hi.X, c.X), Y: max(s.Hi.Y, c.Y), Z: max(s.Hi.Z, c.Z)}
		}
	}
	return s, api.OK
}

// Move returns a model, turned and moved.
func Move(l []api.Kind, m api.Model, turn int, by api.Cell) (api.Model, api.Errno) {
	if e := Check(l, m); e != api.OK {
		return api.Model{}, e
	}
	if !isTurn(turn) || !isPlace(by) {
		return api.Model{}, api.ErrArg
	}
	moved := make([]api.Brick, len(m.Bricks))
	for i, b := range m.Bricks {
		moved[i] = moveBrick(b, turn, by)
	}
	if !areBricks(l, moved) {
		return api.Model{}, api.ErrBrick
	}
	return api.Model{Bricks: moved}, api.OK
}

func moveBrick(b api.Brick, turn int, by api.Cell) api.Brick {
	b.At = add(chainOf(turn).cell(b.At), by)
	b.Turn = uint8(compose(int(b.Turn), turn))
	return b
}
