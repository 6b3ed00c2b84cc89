package lattice_test

import (
	"math"
	"testing"

	"studwork/api"
	"studwork/lattice"
)

func TestP1_2TurnExamples(t *testing.T) {
	for n, want := range map[int]api.Cell{1: cell(-2, 1, 3), 4: cell(1, -3, 2), 8: cell(1, -2, -3), 16: cell(3, 1, 2), 20: cell(-3, -1, 2)} {
		if c, e := lattice.Turn(cell(1, 2, 3), n); e != api.OK || c != want {
			t.Error(n, c, e)
		}
	}
	if d, e := lattice.Direction(0, 1); e != api.OK || d != 2 {
		t.Error(d, e)
	}
	if d, e := lattice.Direction(4, 4); e != api.OK || d != 3 {
		t.Error(d, e)
	}
	for want, ab := range map[int][2]int{5: {1, 4}, 16: {4, 1}} {
		if n, e := lattice.Compose(ab[0], ab[1]); e != api.OK || n != want {
			t.Error(ab, n, e)
		}
	}
	if n, e := lattice.Invert(1); e != api.OK || n != 3 {
		t.Error(n, e)
	}
}

func TestP1_2Turns(t *testing.T) {
	for n := range api.MaxTurns {
		for _, c := range []api.Cell{{}, cell(1, 2, 3), cell(-7, 0, 5), cell(2000, -2000, 2000), cell(-2000, 1999, -1999)} {
			if x, e := lattice.Turn(c, n); e != api.OK || x != wantTurn(c, n) {
				t.Error(c, n, x, e)
			}
		}
		for d := range 6 {
			if x, e := lattice.Direction(d, n); e != api.OK || x != wantDirection(d, n) {
				t.Error(d, n, x, e)
			}
		}
	}
}

func TestP1_2ComposeAndInvert(t *testing.T) {
	probe := cell(4, 5, 6)
	for a := range api.MaxTurns {
		for b := range api.MaxTurns {
			n, e := lattice.Compose(a, b)
			if e != api.OK || wantTurn(probe, n) != wantTurn(wantTurn(probe, a), b) {
				t.Error(a, b, n, e)
			}
		}
		n, e := lattice.Invert(a)
		if e != api.OK || wantTurn(wantTurn(probe, a), n) != probe {
			t.Error(a, n, e)
		}
	}
}

func TestP1_2Errors(t *testing.T) {
	beyond := []int{2001, -2001, math.MinInt, math.MaxInt}
	for _, n := range beyond {
		for _, c := range []api.Cell{cell(n, 0, 0), cell(0, n, 0), cell(0, 0, n), cell(n, n, n)} {
			for turn := range api.MaxTurns {
				if x, e := lattice.Turn(c, turn); e != api.ErrArg || x != (api.Cell{}) {
					t.Error(c, x, e)
				}
			}
		}
	}
	for _, n := range append([]int{24, 25, -1}, beyond...) {
		if x, e := lattice.Turn(cell(1, 2, 3), n); e != api.ErrArg || x != (api.Cell{}) {
			t.Error(n, x, e)
		}
		bad := map[string]result{
			"direction of turn":  of(lattice.Direction(1, n)),
			"compose, first":     of(lattice.Compose(n, 1)),
			"compose, second":    of(lattice.Compose(1, n)),
			"compose, both":      of(lattice.Compose(n, n)),
			"invert":             of(lattice.Invert(n)),
			"direction and turn": of(lattice.Direction(n, n)),
		}
		allFail(t, n, bad, api.ErrArg)
	}
	for _, d := range append([]int{6, -1}, beyond...) {
		allFail(t, d, map[string]result{"direction": of(lattice.Direction(d, 1))}, api.ErrArg)
	}
}

// The turns are a group of 24 elements, and keep distances.
func TestP1_7Group(t *testing.T) {
	seen := map[api.Cell]bool{}
	a, b := cell(3, -4, 12), cell(-1, 7, 2)
	far := func(x, y api.Cell) int {
		d := minus(x, y)
		return d.X*d.X + d.Y*d.Y + d.Z*d.Z
	}
	for n := range api.MaxTurns {
		x, _ := lattice.Turn(a, n)
		y, _ := lattice.Turn(b, n)
		seen[x] = true
		if far(x, y) != far(a, b) || far(x, api.Cell{}) != far(a, api.Cell{}) {
			t.Error("distance", n, x, y)
		}
	}
	if len(seen) != 24 {
		t.Error(len(seen))
	}
	compose := func(a, b int) int {
		n, e := lattice.Compose(a, b)
		if e != api.OK {
			t.Fatal(a, b, e)
		}
		return n
	}
	for a := range api.MaxTurns {
		i, _ := lattice.Invert(a)
		if compose(a, i) != 0 || compose(i, a) != 0 || compose(0, a) != a || compose(a, 0) != a {
			t.Error("neutral", a, i)
		}
		for b := range api.MaxTurns {
			for c := range api.MaxTurns {
				if compose(compose(a, b), c) != compose(a, compose(b, c)) {
					t.Error("associative", a, b, c)
				}
			}
		}
	}
}
