package steps

import (
	"studwork/api"
	"studwork/lattice"
)

// before is, for each direction, the bricks from which it leads straight to a place.
type before [directions]set

// join returns the bricks of both.
func (b before) join(o before) before {
	for dir := range b {
		b[dir] |= o[dir]
	}
	return b
}

// pile is the bricks of a valid model, with the other ones that are before each of them.
type pile struct {
	cells [][]api.Cell // in increasing order, so that the first one of a brick is the lowest
	far   [][]before   // of each cell, however far
	near  []before     // of all cells of a brick, at most MaxWay steps away
}

func pileOf(l []api.Kind, m api.Model) pile {
	n := len(m.Bricks)
	p := pile{make([][]api.Cell, n), make([][]before, n), make([]before, n)}
	for i, b := range m.Bricks {
		p.cells[i], _ = lattice.Cells(alone(l, b))
	}
	for i := range p.cells {
		for _, c := range p.cells[i] {
			far, near := p.look(i, c)
			p.far[i] = append(p.far[i], far)
			p.near[i] = p.near[i].join(near)
		}
	}
	return p
}

// alone returns a brick as one of the only kind there is: layer 1 checks all kinds that it is given, each time.
func alone(l []api.Kind, b api.Brick) ([]api.Kind, api.Brick) {
	own := l[b.Kind : b.Kind+1]
	b.Kind = 0
	return own, b
}

// look returns the other bricks that are before a cell of a brick: all of them, and those that are near.
func (p pile) look(brick int, c api.Cell) (far, near before) {
	for other, cells := range p.cells {
		if other == brick {
			continue
		}
		for _, o := range cells {
			dir, steps := straight(o, c)
			if steps > 0 {
				far[dir] = far[dir].with(other)
			}
			if within(steps, 1, api.MaxWay) {
				near[dir] = near[dir].with(other)
			}
		}
	}
	return far, near
}

// seen returns the bricks that are there and are seen in a direction.
func (p pile) seen(there set, dir int) set {
	var found set
	for i := range there.all() {
		for _, b := range p.far[i] {
			if b[dir]&there == 0 {
				found = found.with(i)
			}
		}
	}
	return found
}

// view returns the direction in which most bricks of a step are seen.
func (p pile) view(step, there set) int {
	best, most := 0, 0
	for dir := range directions {
		if n := (p.seen(there, dir) & step).size(); n > most {
			best, most = dir, n
		}
	}
	return best
}

// Seen returns the bricks that are seen in a direction.
func Seen(l []api.Kind, m api.Model, there []int, dir int) ([]int, api.Errno) {
	if e := lattice.Check(l, m); e != api.OK {
		return nil, e
	}
	s, ok := setOf(there, len(m.Bricks))
	if !ok || !isDirection(dir) {
		return nil, api.ErrArg
	}
	return pileOf(l, m).seen(s, dir).list(), api.OK
}
