package steps

import (
	"studwork/api"
	"studwork/lattice"
	"studwork/stand"
)

// site is a valid model with its rest.
type site struct {
	kinds  []api.Kind
	bricks []api.Brick
	rest   api.Rest
}

// siteOf returns a model with its rest, or why one of them is not valid.
func siteOf(l []api.Kind, m api.Model, r api.Rest) (site, api.Errno) {
	if e := stand.CheckRest(l, m, r); e != api.OK {
		return site{}, e
	}
	return site{l, m.Bricks, r}, api.OK
}

func (s site) model() api.Model { return api.Model{Bricks: s.bricks} }

// whole returns all bricks.
func (s site) whole() set { return firsts(len(s.bricks)) }

// holds tells whether nothing falls of the bricks that are there.
func (s site) holds(there set) bool {
	var m api.Model
	for i := range there.all() {
		m.Bricks = append(m.Bricks, s.bricks[i])
	}
	r := api.Rest{Table: s.rest.Table}
	for _, i := range s.rest.Hands {
		if there.has(i) {
			r.Hands = append(r.Hands, (there & firsts(i)).size())
		}
	}
	fall, e := stand.Falling(s.kinds, m, r)
	return e == api.OK && len(fall) == 0
}

// plan is a site, and what is in the ways to its places.
type plan struct {
	site
	pile
	bars []before // for each brick and direction: which bricks must not be there when it comes
}

func planOf(s site) plan {
	p := plan{s, pileOf(s.kinds, s.model()), make([]before, len(s.bricks))}
	copy(p.bars, p.near)
	links, _ := lattice.Links(s.kinds, s.model())
	for _, k := range links {
		knobs, _ := lattice.Knobs(alone(s.kinds, s.bricks[k.A]))
		dir := int(knobs[k.Knob].Dir)
		p.bar(k.A, k.B, dir)
		p.bar(k.B, k.A, dir^1)
	}
	return p
}

// bar keeps a brick from coming in other directions than that of its knob, when the brick of a link with it is there.
func (p plan) bar(brick, other, knob int) {
	for dir := range directions {
		if dir != knob {
			p.bars[brick][dir] = p.bars[brick][dir].with(other)
		}
	}
}

// free tells whether the way of a brick in a direction is free.
func (p plan) free(brick, dir int, there set) bool {
	if dir == upwards && p.cells[brick][0].Z-api.MaxWay < p.rest.Table {
		return false
	}
	return p.bars[brick][dir]&there == 0
}

// ways returns the directions in which the way of a brick is free.
func (p plan) ways(brick int, there set) []int {
	var l []int
	for dir := range directions {
		if p.free(brick, dir, there) {
			l = append(l, dir)
		}
	}
	return l
}

// comes tells whether a brick has a way.
func (p plan) comes(brick int, there set) bool { return len(p.ways(brick, there)) > 0 }

// Holds returns whether the bricks that are there hold.
func Holds(l []api.Kind, m api.Model, r api.Rest, there []int) (bool, api.Errno) {
	s, e := siteOf(l, m, r)
	if e != api.OK {
		return false, e
	}
	bricks, ok := setOf(there, len(m.Bricks))
	if !ok {
		return false, api.ErrArg
	}
	return s.holds(bricks), api.OK
}

// Ways returns the directions in which the way of a brick is free.
func Ways(l []api.Kind, m api.Model, r api.Rest, there []int, brick int) ([]int, api.Errno) {
	s, e := siteOf(l, m, r)
	if e != api.OK {
		return nil, e
	}
	bricks, ok := setOf(there, len(m.Bricks))
	if !ok || !within(brick, 0, len(m.Bricks)-1) || bricks.has(brick) {
		return nil, api.ErrArg
	}
	return planOf(s).ways(brick, bricks), api.OK
}
