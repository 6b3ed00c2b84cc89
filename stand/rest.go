package stand

import (
	"studwork/api"
	"studwork/lattice"
)

// stack is the bricks of a valid model, as they lie on each other.
type stack struct {
	kinds  []api.Kind
	bricks []api.Brick
	cells  [][]api.Cell     // of each brick, in increasing order, so that the first one is the lowest
	owner  map[api.Cell]int // the brick in each cell
}

// stackOf returns the bricks of a model, or why it is not valid.
func stackOf(l []api.Kind, m api.Model) (stack, api.Errno) {
	if e := lattice.Check(l, m); e != api.OK {
		return stack{}, e
	}
	s := stack{l, m.Bricks, make([][]api.Cell, len(m.Bricks)), map[api.Cell]int{}}
	for i := range m.Bricks {
		s.cells[i], _ = lattice.Cells(s.alone(i))
		for _, c := range s.cells[i] {
			s.owner[c] = i
		}
	}
	return s, api.OK
}

// alone returns a brick as one of the only kind there is: layer 1 checks all kinds that it is given, each time.
func (s stack) alone(brick int) ([]api.Kind, api.Brick) {
	b := s.bricks[brick]
	kind := s.kinds[b.Kind]
	b.Kind = 0
	return []api.Kind{kind}, b
}

func (s stack) weight(brick int) int { return s.kinds[s.bricks[brick].Kind].Weight }

func (s stack) lowest(brick int) int { return s.cells[brick][0].Z }

func (s stack) highest(brick int) int { return s.cells[brick][len(s.cells[brick])-1].Z }

// under returns the brick below a cell, if there is one.
func (s stack) under(c api.Cell) (int, bool) {
	c.Z--
	brick, ok := s.owner[c]
	return brick, ok
}

// scene is a valid model with its rest.
type scene struct {
	stack
	table          int
	held, grounded []bool
}

// sceneOf returns a model with its rest, or why one of them is not valid.
func sceneOf(l []api.Kind, m api.Model, r api.Rest) (scene, api.Errno) {
	s, e := stackOf(l, m)
	if e != api.OK {
		return scene{}, e
	}
	if !s.canRest(r) {
		return scene{}, api.ErrRest
	}
	all := scene{s, r.Table, members(r.Hands, len(m.Bricks)), make([]bool, len(m.Bricks))}
	for i := range m.Bricks {
		all.grounded[i] = all.held[i] || s.lowest(i) == r.Table
	}
	return all, api.OK
}

func (s stack) canRest(r api.Rest) bool {
	if !within(r.Table, -2*api.MaxPlace, 2*api.MaxPlace) || !isSet(r.Hands, len(s.bricks)) {
		return false
	}
	for i := range s.bricks {
		if s.lowest(i) < r.Table {
			return false
		}
	}
	return true
}

// CheckRest returns ErrRest unless a rest is valid for a model.
func CheckRest(l []api.Kind, m api.Model, r api.Rest) api.Errno {
	_, e := sceneOf(l, m, r)
	return e
}

// Grounded returns which bricks are on the ground.
func Grounded(l []api.Kind, m api.Model, r api.Rest) ([]bool, api.Errno) {
	s, e := sceneOf(l, m, r)
	return s.grounded, e
}
