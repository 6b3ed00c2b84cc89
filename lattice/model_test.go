package lattice_test

import (
	"math/rand"
	"testing"

	"studwork/api"
	"studwork/lattice"
)

// row is a model of n plates that do not touch.
func row(n int) api.Model {
	var m api.Model
	for i := range n {
		m.Bricks = append(m.Bricks, brick(0, 3*i, 0, 0, 0))
	}
	return m
}

func TestP1_3Overlaps(t *testing.T) {
	m := model(brick(0, 0, 0, 0, 0), brick(0, 5, 0, 0, 0), brick(0, 1, 0, 0, 1), brick(0, 1, 0, 0, 0), brick(0, 0, 0, 0, 3))
	p, e := lattice.Overlaps(plates(), m)
	wantErr(t, "overlaps", e, api.OK)
	same(t, "overlaps", p, [][2]int{{0, 2}, {0, 3}, {0, 4}, {2, 3}})
	p, e = lattice.Overlaps(plates(), row(api.MaxBricks))
	wantErr(t, "40 bricks", e, api.OK)
	same(t, "40 bricks", p, nil)
	p, e = lattice.Overlaps(plates(), model())
	wantErr(t, "no bricks", e, api.OK)
	same(t, "no bricks", p, nil)
	p, e = lattice.Overlaps(nil, model())
	wantErr(t, "no kinds", e, api.OK)
	same(t, "no kinds", p, nil)
	all, e := lattice.Overlaps(plates(), api.Model{Bricks: make([]api.Brick, api.MaxBricks)})
	if e != api.OK || len(all) != 40*39/2 || all[0] != [2]int{0, 1} || all[779] != [2]int{38, 39} {
		t.Error(len(all), e)
	}
}

func TestP1_3OverlapsOfMany(t *testing.T) {
	r := rand.New(rand.NewSource(5))
	for range 300 {
		l := randomKinds(r)
		var m api.Model
		for range r.Intn(12) {
			m.Bricks = append(m.Bricks, randomBrick(r, len(l), 2))
		}
		p, e := lattice.Overlaps(l, m)
		wantErr(t, m, e, api.OK)
		want := wantOverlaps(l, m)
		same(t, m, p, want)
		if len(want) > 0 {
			wantErr(t, m, lattice.Check(l, m), api.ErrOverlap)
		} else {
			wantErr(t, m, lattice.Check(l, m), api.OK)
		}
	}
}

// Each error, and that the one that is named first is returned (P1.3, P1.4).
func TestP1_4Errors(t *testing.T) {
	l := []api.Kind{plate(), corner()}
	overlap := []api.Brick{brick(0, 0, 0, 0, 0), brick(1, 0, 0, 0, 0)}
	allFail(t, "overlap", withModel(l, model(overlap...)), api.ErrOverlap)
	for _, b := range badBricks() {
		m := model(b)
		allFail(t, b, withModel(l, m), api.ErrBrick)
		allFail(t, b, map[string]result{"Overlaps": of(lattice.Overlaps(l, m))}, api.ErrBrick)
		m = model(append(overlap, b)...)
		allFail(t, b, withModel(l, m), api.ErrBrick)
		allFail(t, b, map[string]result{"Overlaps": of(lattice.Overlaps(l, m))}, api.ErrBrick)
	}
	for _, n := range []int{41, 100} {
		for _, m := range []api.Model{row(n), {Bricks: make([]api.Brick, n)}, model(append(row(n).Bricks, badBricks()...)...)} {
			allFail(t, n, withModel(l, m), api.ErrMany)
			allFail(t, n, map[string]result{"Overlaps": of(lattice.Overlaps(l, m))}, api.ErrMany)
		}
	}
	for name, r := range withModel(l, row(40)) {
		wantErr(t, name, r.e, api.OK)
	}
}

func TestP1_4Bounds(t *testing.T) {
	for i, x := range []struct {
		m    api.Model
		want api.Span
	}{
		{model(), api.Span{}},
		{model(brick(0, 5, 6, 7, 0)), api.Span{Lo: cell(5, 6, 7), Hi: cell(6, 6, 7)}},
		{model(brick(0, -5, -6, -7, 3)), api.Span{Lo: cell(-5, -7, -7), Hi: cell(-5, -6, -7)}},
		{model(brick(0, 9, -3, 2, 0), brick(0, -4, 8, 1, 1), brick(0, 0, 0, -9, 0)), api.Span{Lo: cell(-4, -3, -9), Hi: cell(10, 9, 2)}},
		{model(brick(0, 1000, 1000, 1000, 0), brick(0, -1000, -1000, -1000, 2)), api.Span{Lo: cell(-1001, -1000, -1000), Hi: cell(1001, 1000, 1000)}},
	} {
		s, e := lattice.Bounds(plates(), x.m)
		if e != api.OK || s != x.want {
			t.Error(i, s, e)
		}
	}
	if s, e := lattice.Bounds(nil, model()); e != api.OK || s != (api.Span{}) {
		t.Error(s, e)
	}
}

func TestP1_5Move(t *testing.T) {
	m := model(api.Brick{At: cell(1, 2, 3), Turn: 1, Color: 7}, api.Brick{At: cell(0, 0, 9), Color: 15})
	x, e := lattice.Move(plates(), m, 4, cell(10, 20, 30))
	wantErr(t, "move", e, api.OK)
	same(t, "move", x.Bricks, []api.Brick{{At: cell(11, 17, 32), Turn: 5, Color: 7}, {At: cell(10, 11, 30), Turn: 4, Color: 15}})
	x, e = lattice.Move(plates(), model(), 23, cell(-1000, 1000, 1000))
	if e != api.OK || len(x.Bricks) != 0 {
		t.Error(x, e)
	}
}

// A brick may be moved as far as from one end to the other one, and its At has to be in range, but not its cells.
func TestP1_5Edges(t *testing.T) {
	low := model(brick(0, -1000, -1000, -1000, 0))
	x, e := lattice.Move(plates(), low, 2, cell(0, 0, 1000))
	wantErr(t, "to the end", e, api.OK)
	same(t, "to the end", x.Bricks, []api.Brick{brick(0, 1000, 1000, 0, 2)})
	for i, by := range []api.Cell{cell(1, 0, 0), cell(0, 1, 0), cell(0, 0, -1), cell(1000, 1000, -1000)} {
		x, e := lattice.Move(plates(), low, 2, by)
		if e != api.ErrBrick || len(x.Bricks) > 0 {
			t.Error(i, x, e)
		}
	}
	_, e = lattice.Move(plates(), model(brick(0, 0, 0, 0, 0), brick(0, 1, 5, 0, 0)), 0, cell(1000, 0, 0))
	wantErr(t, "the second brick", e, api.ErrBrick)
}

func TestP1_5Errors(t *testing.T) {
	low := model(brick(0, -1000, 0, 0, 0))
	check := func(what any, m api.Model, turn int, by api.Cell, want api.Errno) {
		t.Helper()
		x, e := lattice.Move(plates(), m, turn, by)
		wantErr(t, what, e, want)
		if len(x.Bricks) > 0 {
			t.Error(what, x)
		}
	}
	for _, n := range extremes {
		check(n, low, n, cell(-1, 0, 0), api.ErrArg)
		check(n, model(), n, api.Cell{}, api.ErrArg)
		if n != -1 && n != 24 {
			check(n, low, 0, cell(n, 0, 0), api.ErrArg)
			check(n, low, 0, cell(0, n, 0), api.ErrArg)
			check(n, low, 0, cell(0, 0, n), api.ErrArg)
		}
		check(n, row(41), n, api.Cell{}, api.ErrMany)
		check(n, model(brick(1, 0, 0, 0, 0)), n, api.Cell{}, api.ErrBrick)
		check(n, model(brick(0, 0, 0, 0, 0), brick(0, 1, 0, 0, 0)), n, api.Cell{}, api.ErrOverlap)
	}
	check("beyond", low, 0, cell(-1, 0, 0), api.ErrBrick)
}

// All cells and knobs of a model that is moved are turned, and then moved.
func TestP1_5MovesAll(t *testing.T) {
	r := rand.New(rand.NewSource(7))
	for i := range 240 {
		l := randomKinds(r)
		m := randomModel(r, l, 6)
		turn, by := i%24, randomBrick(r, 1, 990).At
		x, e := lattice.Move(l, m, turn, by)
		wantErr(t, m, e, api.OK)
		if len(x.Bricks) != len(m.Bricks) {
			t.Fatal(m, x)
		}
		for j, b := range m.Bricks {
			moved := x.Bricks[j]
			if moved.Kind != b.Kind || moved.Color != b.Color {
				t.Error(b, moved)
			}
			k := l[b.Kind]
			cells := wantCells(k, b)
			for n, c := range cells {
				cells[n] = plus(wantTurn(c, turn), by)
			}
			sortCells(cells)
			same(t, "cells", wantCells(k, moved), cells)
			knobs := wantKnobs(k, b)
			for n, o := range knobs {
				knobs[n] = api.Knob{At: plus(wantTurn(o.At, turn), by), Dir: uint8(wantDirection(int(o.Dir), turn)), Sort: o.Sort}
			}
			same(t, "knobs", wantKnobs(k, moved), knobs)
		}
	}
}
