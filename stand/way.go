package stand

import (
	"studwork/api"
	"studwork/lattice"
)

// way is what a brick may put on another one, and what it puts there.
type way struct {
	rests      bool
	limit, put int
}

// ways are those from each brick to each other one.
type ways [api.MaxBricks][api.MaxBricks]way

func waysOf(s stack) *ways {
	var w ways
	joints, _ := lattice.Joints(s.kinds, api.Model{Bricks: s.bricks})
	for _, j := range joints {
		w[j.A][j.B].limit = api.Clutch * j.Strength
		w[j.B][j.A].limit = api.Clutch * j.Strength
	}
	for from, cells := range s.cells {
		for _, c := range cells {
			if to, ok := s.under(c); ok && to != from {
				w[from][to] = way{rests: true, limit: api.MaxLoad}
			}
		}
	}
	return &w
}

// room returns how much more may be pushed along a way: what comes the other way can be taken back.
func (w *ways) room(from, to int) int {
	return w[from][to].limit - w[from][to].put + w[to][from].put
}

// push puts more along a way, where there is room for it.
func (w *ways) push(from, to, amount int) {
	back := min(amount, w[to][from].put)
	w[to][from].put -= back
	w[from][to].put += amount - back
}

// Capacity returns what a brick may put on another one.
func Capacity(l []api.Kind, m api.Model, from, to int) (int, api.Errno) {
	s, e := stackOf(l, m)
	if e != api.OK {
		return 0, e
	}
	last := len(m.Bricks) - 1
	if !within(from, 0, last) || !within(to, 0, last) || from == to {
		return 0, api.ErrArg
	}
	return waysOf(s)[from][to].limit, api.OK
}
