package compose

import "studwork/api"

// Check returns an error unless c is a composition (P7.1).
func Check(s api.Shape, l []api.Plate, c []api.Laid) api.Errno {
	_, _, e := composed(s, l, c)
	return e
}

// composed returns the board and the pieces of a composition, with Check's error.
func composed(s api.Shape, l []api.Plate, c []api.Laid) (board, []piece, api.Errno) {
	b, e := boardOf(s, l)
	if e != api.OK {
		return board{}, nil, e
	}
	pieces, ok := b.take(c)
	if !ok {
		return board{}, nil, api.ErrBad
	}
	return b, pieces, api.OK
}

// take returns the pieces of a composition, and false if it is none. If all cells are covered in order, each piece begins at the first cell that is still open.
func (b board) take(c []api.Laid) ([]piece, bool) {
	var pieces []piece
	left, open := b.supply(), b.whole()
	for _, x := range c {
		p, ok := b.pieces[x]
		if !ok || p.covers.first() != open.first() || !open.has(p.covers) || left[p.Plate] == 0 {
			return nil, false
		}
		left[p.Plate]--
		open = open.without(p.covers)
		pieces = append(pieces, p)
	}
	return pieces, open == 0
}

// supply returns how many of each plate there are.
func (b board) supply() []int {
	var left []int
	for _, p := range b.plates {
		left = append(left, p.N)
	}
	return left
}

// Hangs returns whether a composition hangs together (P7.2).
func Hangs(s api.Shape, l []api.Plate, c []api.Laid) (bool, api.Errno) {
	b, pieces, e := composed(s, l, c)
	if e != api.OK {
		return false, e
	}
	return b.hangs(pieces), api.OK
}

// hangs goes on from the first piece to those that touch, until there are no more of them.
func (b board) hangs(pieces []piece) bool {
	reached := pieces[0].covers
	for grown := true; grown; {
		grown = false
		for _, p := range pieces {
			if p.touches&reached != 0 && !reached.has(p.covers) {
				reached |= p.covers
				grown = true
			}
		}
	}
	return reached == b.whole()
}

// Weak returns the weakness of a composition (P7.2).
func Weak(s api.Shape, l []api.Plate, c []api.Laid) (int, api.Errno) {
	b, pieces, e := composed(s, l, c)
	if e != api.OK {
		return 0, e
	}
	return b.weakness(pieces), api.OK
}

func (b board) weakness(pieces []piece) int {
	var by [api.MaxFull]int // the piece that covers each cell
	for i, p := range pieces {
		for n := range p.covers.all() {
			by[n] = i
		}
	}
	stacked := 0
	for _, w := range b.walls {
		if by[w.left] != by[w.right] && by[w.leftAbove] != by[w.rightAbove] {
			stacked++
		}
	}
	return stacked
}

// Model returns the model of a composition (P7.5).
func Model(s api.Shape, l []api.Plate, c []api.Laid) (api.Model, api.Errno) {
	b, pieces, e := composed(s, l, c)
	if e != api.OK {
		return api.Model{}, e
	}
	var m api.Model
	for _, p := range pieces {
		m.Bricks = append(m.Bricks, b.brick(p))
	}
	return m, api.OK
}

// brick moves a plate that is turned, since a quarter turn takes its cells to the left of its place.
func (b board) brick(p piece) api.Brick {
	x := api.Brick{Kind: p.Plate, At: p.At, Color: b.color(p.At)}
	if p.Turned {
		x.Turn = quarter
		x.At.X += b.plates[p.Plate].D - 1
	}
	return x
}
