package lattice_test

import (
	"fmt"
	"math/rand"
	"testing"

	"studwork/api"
	"studwork/lattice"
)

func TestP1_3CellsExample(t *testing.T) {
	c, e := lattice.Cells(plates(), brick(0, 5, 0, 0, 1))
	wantErr(t, "plate", e, api.OK)
	same(t, "plate", c, []api.Cell{cell(5, 0, 0), cell(5, 1, 0)})
}

func TestP1_3KnobsKeepTheirOrder(t *testing.T) {
	// Turned by 6, twice about z and then about x, the second cell comes before the first one in the order of cells.
	c, e := lattice.Cells(plates(), brick(0, 5, 6, 7, 6))
	wantErr(t, "cells", e, api.OK)
	same(t, "cells", c, []api.Cell{cell(4, 6, 7), cell(5, 6, 7)})
	k, e := lattice.Knobs(plates(), brick(0, 5, 6, 7, 6))
	wantErr(t, "knobs", e, api.OK)
	same(t, "knobs", k, []api.Knob{knob(5, 6, 7, 3, 1), knob(5, 6, 7, 2, 2), knob(4, 6, 7, 3, 1), knob(4, 6, 7, 2, 2)})
}

func TestP1_3CellsAndKnobs(t *testing.T) {
	r := rand.New(rand.NewSource(3))
	for range 60 {
		l := randomKinds(r)
		for turn := range uint8(api.MaxTurns) {
			b := randomBrick(r, len(l), api.MaxPlace)
			b.Turn = turn
			c, e := lattice.Cells(l, b)
			wantErr(t, b, e, api.OK)
			same(t, b, c, wantCells(l[b.Kind], b))
			k, e := lattice.Knobs(l, b)
			wantErr(t, b, e, api.OK)
			same(t, b, k, wantKnobs(l[b.Kind], b))
		}
	}
}

// badBricks are no bricks of two kinds, each for one reason.
func badBricks() []api.Brick {
	bad := []api.Brick{brick(2, 0, 0, 0, 0), brick(-1, 0, 0, 0, 0), brick(0, 0, 0, 0, 24), brick(0, 0, 0, 0, 255), {Color: 16}, {Color: 255}}
	for _, n := range extremes {
		if n != 24 && n != -1 {
			bad = append(bad, brick(0, n, 0, 0, 0), brick(0, 0, n, 0, 0), brick(0, 0, 0, n, 0), brick(n, 0, 0, 0, 0))
		}
	}
	return bad
}

func TestP1_3ValidBricks(t *testing.T) {
	l := []api.Kind{plate(), corner()}
	for _, b := range []api.Brick{
		{Kind: 1, At: cell(1000, 1000, 1000), Turn: 23, Color: 15},
		{Kind: 0, At: cell(-1000, -1000, -1000)},
		{Kind: 1, At: cell(1000, -1000, 0), Turn: 17, Color: 1},
	} {
		for name, r := range withBrick(l, b) {
			wantErr(t, fmt.Sprint(name, b), r.e, api.OK)
		}
		wantErr(t, b, lattice.Check(l, model(b)), api.OK)
	}
}

// Normal's error of P1.6 is checked here too.
func TestP1_3ErrBrick(t *testing.T) {
	l := []api.Kind{plate(), corner()}
	for _, b := range badBricks() {
		allFail(t, b, withBrick(l, b), api.ErrBrick)
	}
	allFail(t, "no kinds", withBrick(nil, api.Brick{}), api.ErrBrick)
}
