// Package lattice is layer 1: parts on a lattice; see shared/doc/01-lattice.md.
//
// Kinds are in kind.go, the turns in turn.go, single bricks in brick.go, models in model.go, what is connected in link.go, and what looks alike in look.go.
package lattice

import (
	"cmp"

	"studwork/api"
)

// steps are the directions, as steps to the neighbour.
var steps = [6]api.Cell{{X: 1}, {X: -1}, {Y: 1}, {Y: -1}, {Z: 1}, {Z: -1}}

func within(n, lo, hi int) bool { return lo <= n && n <= hi }

// cellWithin compares without a sum or a negation, which could overflow for the greatest and least numbers.
func cellWithin(c api.Cell, lo, hi int) bool {
	return within(c.X, lo, hi) && within(c.Y, lo, hi) && within(c.Z, lo, hi)
}

func isPlace(c api.Cell) bool { return cellWithin(c, -api.MaxPlace, api.MaxPlace) }

func isTurn(n int) bool { return within(n, 0, api.MaxTurns-1) }

func isDirection(d int) bool { return within(d, 0, len(steps)-1) }

func add(a, b api.Cell) api.Cell { return api.Cell{X: a.X + b.X, Y: a.Y + b.Y, Z: a.Z + b.Z} }

func sub(a, b api.Cell) api.Cell { return api.Cell{X: a.X - b.X, Y: a.Y - b.Y, Z: a.Z - b.Z} }

// facing returns the cell that a knob points at.
func facing(k api.Knob) api.Cell { return add(k.At, steps[k.Dir]) }

// compareCells is the order of cells.
func compareCells(a, b api.Cell) int {
	return cmp.Or(cmp.Compare(a.Z, b.Z), cmp.Compare(a.Y, b.Y), cmp.Compare(a.X, b.X))
}

// compareKnobs is the order of knobs: no two knobs of a kind are on one face, so that Sort is not needed.
func compareKnobs(a, b api.Knob) int {
	return cmp.Or(compareCells(a.At, b.At), cmp.Compare(a.Dir, b.Dir))
}
