package stand

import (
	"cmp"
	"slices"

	"studwork/api"
	"studwork/lattice"
)

// pull is a link between two bricks, as a support of a part that has just one of them.
type pull struct {
	a, b    int
	support api.Support
}

// scales are a scene whose parts are weighed.
type scales struct {
	scene
	pulls []pull
}

func scalesOf(l []api.Kind, m api.Model, r api.Rest) (scales, api.Errno) {
	s, e := sceneOf(l, m, r)
	if e != api.OK {
		return scales{}, e
	}
	return scales{s, pullsOf(s.stack)}, api.OK
}

func pullsOf(s stack) []pull {
	knobs := make([][]api.Knob, len(s.bricks))
	for i := range s.bricks {
		knobs[i], _ = lattice.Knobs(s.alone(i))
	}
	links, _ := lattice.Links(s.kinds, api.Model{Bricks: s.bricks})
	l := make([]pull, len(links))
	for i, k := range links {
		a, b := knobs[k.A][k.Knob].At, knobs[k.B][k.Other].At
		l[i] = pull{k.A, k.B, api.Support{X: a.X + b.X, Y: a.Y + b.Y, Pull: api.Clutch * strength(k.Sort)}}
	}
	return l
}

// strength returns how strong a link of a sort is: the odd sorts are a stud, a bar and a pin.
func strength(sort uint8) int {
	switch sort {
	case 1:
		return 2
	case 3:
		return 3
	case 5:
		return 5
	}
	return 0
}

// supports returns the supports of a part, in order.
func (s scales) supports(part []int) []api.Support {
	in := members(part, len(s.bricks))
	var l []api.Support
	for _, i := range part {
		for _, c := range s.cells[i] {
			if below, ok := s.under(c); ok && !in[below] || c.Z == s.table {
				l = append(l, corners(c)...)
			}
		}
		if s.held[i] {
			l = append(l, s.hand(i)...)
		}
	}
	for _, p := range s.pulls {
		if in[p.a] != in[p.b] {
			l = append(l, p.support)
		}
	}
	slices.SortFunc(l, func(a, b api.Support) int {
		return cmp.Or(cmp.Compare(a.Y, b.Y), cmp.Compare(a.X, b.X), cmp.Compare(a.Pull, b.Pull))
	})
	return l
}

// hand returns the supports of a brick that is held: its middle, and the corners of its cells.
func (s scales) hand(brick int) []api.Support {
	m := s.middle(brick)
	l := []api.Support{{X: m.X, Y: m.Y}}
	for _, c := range s.cells[brick] {
		l = append(l, corners(c)...)
	}
	return l
}

func corners(c api.Cell) []api.Support {
	x, y := 2*c.X, 2*c.Y
	return []api.Support{{X: x - 1, Y: y - 1}, {X: x + 1, Y: y - 1}, {X: x - 1, Y: y + 1}, {X: x + 1, Y: y + 1}}
}

func (s stack) middle(brick int) api.Spot {
	lo, hi := s.cells[brick][0], s.cells[brick][0]
	for _, c := range s.cells[brick] {
		lo.X, lo.Y = min(lo.X, c.X), min(lo.Y, c.Y)
		hi.X, hi.Y = max(hi.X, c.X), max(hi.Y, c.Y)
	}
	return api.Spot{X: lo.X + hi.X, Y: lo.Y + hi.Y}
}

// point is the place (x / d, y / d); d is above 0.
type point struct{ x, y, d int }

// point returns where the weights of a part and the pulls of its supports act together.
func (s scales) point(part []int, supports []api.Support) point {
	var p point
	for _, i := range part {
		m := s.middle(i)
		p = p.with(s.weight(i), m.X, m.Y)
	}
	for _, x := range supports {
		p = p.with(x.Pull, x.X, x.Y)
	}
	return p
}

// with adds a force at a place.
func (p point) with(force, x, y int) point {
	return point{p.x + force*x, p.y + force*y, p.d + force}
}

// Supports returns the supports of a part.
func Supports(l []api.Kind, m api.Model, r api.Rest, part []int) ([]api.Support, api.Errno) {
	s, e := scalesOf(l, m, r)
	if e != api.OK {
		return nil, e
	}
	if !s.isPart(part) {
		return nil, api.ErrArg
	}
	return s.supports(part), api.OK
}

func (s scales) isPart(part []int) bool { return len(part) > 0 && isSet(part, len(s.bricks)) }
