package lattice

import "studwork/api"

// part is a quarter turn that is done so many times.
type part struct {
	quarter func(api.Cell) api.Cell
	times   int
}

// chain is what a turn does, one part after the other.
type chain [3]part

func aboutZ(c api.Cell) api.Cell { return api.Cell{X: -c.Y, Y: c.X, Z: c.Z} }

func aboutX(c api.Cell) api.Cell { return api.Cell{X: c.X, Y: -c.Z, Z: c.Y} }

// chainOf returns the chain of the turn n: quarters about z first, and then those that bring another side up.
func chainOf(n int) chain {
	sides := [6][2]part{
		{},
		{{aboutX, 1}},
		{{aboutX, 2}},
		{{aboutX, 3}},
		{{aboutX, 1}, {aboutZ, 1}},
		{{aboutX, 1}, {aboutZ, 3}},
	}
	side := sides[n/4]
	return chain{{aboutZ, n % 4}, side[0], side[1]}
}

func (l chain) cell(c api.Cell) api.Cell {
	for _, p := range l {
		for range p.times {
			c = p.quarter(c)
		}
	}
	return c
}

// direction turns a direction like the step along it.
func (l chain) direction(d int) int {
	step := l.cell(steps[d])
	for i, s := range steps {
		if s == step {
			return i
		}
	}
	return d
}

// Turn returns a cell, turned.
func Turn(c api.Cell, n int) (api.Cell, api.Errno) {
	if !isTurn(n) || !cellWithin(c, -2*api.MaxPlace, 2*api.MaxPlace) {
		return api.Cell{}, api.ErrArg
	}
	return chainOf(n).cell(c), api.OK
}

// Direction returns a direction, turned.
func Direction(d, n int) (int, api.Errno) {
	if !isDirection(d) || !isTurn(n) {
		return 0, api.ErrArg
	}
	return chainOf(n).direction(d), api.OK
}

// Compose returns the turn that does what one does, and then what another one does.
func Compose(a, b int) (int, api.Errno) {
	if !isTurn(a) || !isTurn(b) {
		return 0, api.ErrArg
	}
	return compose(a, b), api.OK
}

// Invert returns the turn that undoes a turn.
func Invert(a int) (int, api.Errno) {
	if !isTurn(a) {
		return 0, api.ErrArg
	}
	return turnBetween(chainOf(a).cell(probe()), probe()), api.OK
}

// probe is a cell that each turn takes to another place, so that a turn is known by where it goes.
func probe() api.Cell { return api.Cell{X: 1, Y: 2, Z: 3} }

func compose(a, b int) int {
	return turnBetween(probe(), chainOf(b).cell(chainOf(a).cell(probe())))
}

// turnBetween returns the turn that takes one cell to another one. One of them is the probe, so that there is only one such turn.
func turnBetween(from, to api.Cell) int {
	for n := range api.MaxTurns {
		if chainOf(n).cell(from) == to {
			return n
		}
	}
	return 0
}
