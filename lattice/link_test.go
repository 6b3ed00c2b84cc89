package lattice_test

import (
	"fmt"
	"math/rand"
	"testing"

	"studwork/api"
	"studwork/lattice"
)

// faced are cubes with one sort on all faces, the sorts 1 to 6 in turn.
func faced() []api.Kind {
	var l []api.Kind
	for sort := range uint8(6) {
		k := api.Kind{Cells: []api.Cell{{}}, Weight: 1}
		k.Knobs = freeKnobs(k.Cells, func() uint8 { return sort + 1 })
		l = append(l, k)
	}
	return l
}

// hollow is a ring of eight cells with a knob inside to +x, and one to -x that faces it.
func hollow(a, b uint8) api.Kind {
	k := box(3, 3, 1)
	k.Cells = append(k.Cells[:4], k.Cells[5:]...)
	k.Knobs = []api.Knob{knob(0, 1, 0, 0, a), knob(2, 1, 0, 1, b)}
	return k
}

// core is a cube with a knob to -x, and one to +x.
func core(a, b uint8) api.Kind {
	return api.Kind{Cells: []api.Cell{{}}, Knobs: []api.Knob{knob(0, 0, 0, 0, b), knob(0, 0, 0, 1, a)}, Weight: 1}
}

func TestP1_4LinksExample(t *testing.T) {
	m := model(brick(0, 0, 0, 0, 0), brick(0, 1, 0, 1, 0))
	l, e := lattice.Links(plates(), m)
	wantErr(t, "links", e, api.OK)
	same(t, "links", l, []api.Link{{A: 0, B: 1, Knob: 2, Other: 1, Sort: 1}})
	j, e := lattice.Joints(plates(), m)
	wantErr(t, "joints", e, api.OK)
	same(t, "joints", j, []api.Joint{{A: 0, B: 1, Strength: 2, Axis: 3}})
	j, e = lattice.Joints(plates(), model(brick(0, 0, 0, 0, 0), brick(0, 0, 0, 1, 0)))
	wantErr(t, "joints", e, api.OK)
	same(t, "joints", j, []api.Joint{{A: 0, B: 1, Strength: 4}})
}

// The lower brick may be the second one: the tube is the Knob then.
func TestP1_4LinkFromAbove(t *testing.T) {
	l, e := lattice.Links(plates(), model(brick(0, 1, 0, 1, 0), brick(0, 0, 0, 0, 0)))
	wantErr(t, "links", e, api.OK)
	same(t, "links", l, []api.Link{{A: 0, B: 1, Knob: 1, Other: 2, Sort: 1}})
}

// Of all pairs of sorts, in each direction, only an odd one and the next one fit.
func TestP1_4Sorts(t *testing.T) {
	strengths := map[uint8]int{1: 2, 3: 3, 5: 5}
	for d := range 6 {
		at := stepAlong(d)
		for a := range uint8(6) {
			for b := range uint8(6) {
				m := model(brick(int(a), 0, 0, 0, 0), brick(int(b), at.X, at.Y, at.Z, 0))
				what := fmt.Sprint("direction ", d, ", sorts ", a+1, b+1)
				l, e := lattice.Links(faced(), m)
				wantErr(t, what, e, api.OK)
				j, e := lattice.Joints(faced(), m)
				wantErr(t, what, e, api.OK)
				if !wantFit(a+1, b+1) {
					same(t, what, l, nil)
					same(t, what, j, nil)
					continue
				}
				odd := min(a, b) + 1
				same(t, what, l, []api.Link{{A: 0, B: 1, Knob: d, Other: d ^ 1, Sort: odd}})
				same(t, what, j, []api.Joint{{A: 0, B: 1, Strength: strengths[odd], Axis: uint8(d/2 + 1), Slides: odd == 3}})
			}
		}
	}
}

// Links in both directions along one line have its axis; they slide if all of them are bars.
func TestP1_4JointsOnOneLine(t *testing.T) {
	for _, x := range []struct {
		a, b, c, d uint8
		want       api.Joint
	}{
		{3, 4, 4, 3, api.Joint{B: 1, Strength: 6, Axis: 1, Slides: true}},
		{3, 6, 4, 5, api.Joint{B: 1, Strength: 8, Axis: 1}},
		{1, 2, 2, 1, api.Joint{B: 1, Strength: 4, Axis: 1}},
		{1, 4, 2, 1, api.Joint{B: 1, Strength: 2, Axis: 1}},
	} {
		l := []api.Kind{hollow(x.a, x.b), core(x.c, x.d)}
		for axis, turn := range []int{0, 1, 5} {
			m, e := lattice.Move(l, model(brick(0, 0, 0, 0, 0), brick(1, 1, 1, 0, 0)), turn, cell(7, 8, 9))
			wantErr(t, x, e, api.OK)
			x.want.Axis = uint8(axis + 1)
			j, e := lattice.Joints(l, m)
			wantErr(t, x, e, api.OK)
			same(t, x, j, []api.Joint{x.want})
		}
	}
}

// Bars side by side, and bars along two axes, neither turn nor slide.
func TestP1_4JointsOffOneLine(t *testing.T) {
	bars := api.Kind{Cells: box(2, 1, 1).Cells, Knobs: []api.Knob{knob(0, 0, 0, 4, 3), knob(1, 0, 0, 4, 3)}, Weight: 1}
	clips := api.Kind{Cells: box(2, 1, 1).Cells, Knobs: []api.Knob{knob(0, 0, 0, 5, 4), knob(1, 0, 0, 5, 4)}, Weight: 1}
	j, e := lattice.Joints([]api.Kind{bars, clips}, model(brick(1, 0, 0, 1, 0), brick(0, 0, 0, 0, 0)))
	wantErr(t, "side by side", e, api.OK)
	same(t, "side by side", j, []api.Joint{{A: 0, B: 1, Strength: 6}})
	inner := api.Kind{Cells: []api.Cell{{}, cell(1, 0, 0), cell(0, 1, 0)}, Knobs: []api.Knob{knob(1, 0, 0, 2, 3), knob(0, 1, 0, 0, 3)}, Weight: 1}
	corner := api.Kind{Cells: []api.Cell{{}}, Knobs: []api.Knob{knob(0, 0, 0, 1, 4), knob(0, 0, 0, 3, 4)}, Weight: 1}
	j, e = lattice.Joints([]api.Kind{inner, corner}, model(brick(0, 0, 0, 0, 0), brick(1, 1, 1, 0, 0)))
	wantErr(t, "two axes", e, api.OK)
	same(t, "two axes", j, []api.Joint{{A: 0, B: 1, Strength: 6}})
}

func TestP1_4Groups(t *testing.T) {
	for i, x := range []struct {
		m    api.Model
		want []int
	}{
		{model(), nil},
		{model(brick(0, 0, 0, 0, 0)), []int{0}},
		{model(brick(0, 0, 0, 0, 0), brick(0, 2, 0, 0, 0)), []int{0, 1}},
		{model(brick(0, 0, 0, 0, 0), brick(0, 2, 0, 0, 0), brick(0, 1, 0, 1, 0)), []int{0, 0, 0}},
		{model(brick(0, 9, 0, 0, 0), brick(0, 0, 0, 0, 0), brick(0, 9, 0, 1, 1), brick(0, 2, 0, 0, 0), brick(0, 1, 0, 1, 0)), []int{0, 1, 0, 1, 1}},
	} {
		g, e := lattice.Groups(plates(), x.m)
		wantErr(t, i, e, api.OK)
		same(t, i, g, x.want)
	}
	var tower api.Model
	for i := range api.MaxBricks {
		tower.Bricks = append(tower.Bricks, brick(0, 0, 0, 39-i, 0))
	}
	g, e := lattice.Groups(plates(), tower)
	wantErr(t, "tower", e, api.OK)
	same(t, "tower", g, make([]int, api.MaxBricks))
}

// holdModel holds all that is said of a model against the words of the chapter.
func holdModel(t *testing.T, l []api.Kind, m api.Model) {
	t.Helper()
	k, e := lattice.Links(l, m)
	wantErr(t, m, e, api.OK)
	same(t, m, k, wantLinks(l, m))
	j, e := lattice.Joints(l, m)
	wantErr(t, m, e, api.OK)
	same(t, m, j, wantJoints(l, m))
	g, e := lattice.Groups(l, m)
	wantErr(t, m, e, api.OK)
	same(t, m, g, wantGroups(l, m))
}

func TestP1_4Many(t *testing.T) {
	r := rand.New(rand.NewSource(11))
	found := 0
	for range 400 {
		l := randomKinds(r)
		m := randomModel(r, l, 30)
		found += len(wantLinks(l, m))
		holdModel(t, l, m)
	}
	if found < 1000 {
		t.Error("too few links to test with:", found)
	}
}

// A full model of bricks that touch on all sides.
func TestP1_4Full(t *testing.T) {
	l := faced()
	var m api.Model
	for i := range api.MaxBricks {
		b := brick((i+i/4)%6, i%4, i/4%4, i/16, uint8(i%24))
		m.Bricks = append(m.Bricks, b)
	}
	holdModel(t, l, m)
}

// Turning and moving a whole model changes nothing between its bricks.
func TestP1_7Invariance(t *testing.T) {
	r := rand.New(rand.NewSource(13))
	for i := range 240 {
		l := randomKinds(r)
		m := randomModel(r, l, 12)
		x, e := lattice.Move(l, m, i%24, randomBrick(r, 1, 990).At)
		wantErr(t, m, e, api.OK)
		wantErr(t, x, lattice.Check(l, x), api.OK)
		before, _ := lattice.Links(l, m)
		after, _ := lattice.Links(l, x)
		same(t, "links", after, before)
		same(t, "joints", jointsButAxes(t, l, x), jointsButAxes(t, l, m))
		g, _ := lattice.Groups(l, m)
		h, _ := lattice.Groups(l, x)
		same(t, "groups", h, g)
	}
}

// jointsButAxes only keeps of an axis whether there is one.
func jointsButAxes(t *testing.T, l []api.Kind, m api.Model) []api.Joint {
	t.Helper()
	j, e := lattice.Joints(l, m)
	wantErr(t, m, e, api.OK)
	for i := range j {
		j[i].Axis = min(j[i].Axis, 1)
	}
	return j
}

// Move takes no model with overlaps: its bricks are turned one by one here.
func TestP1_7Overlaps(t *testing.T) {
	r := rand.New(rand.NewSource(17))
	for i := range 240 {
		l := randomKinds(r)
		var m, x api.Model
		by := randomBrick(r, 1, 900).At
		for range 8 {
			b := randomBrick(r, len(l), 2)
			m.Bricks = append(m.Bricks, b)
			at, _ := lattice.Turn(b.At, i%24)
			turn, _ := lattice.Compose(int(b.Turn), i%24)
			b.At, b.Turn = plus(at, by), uint8(turn)
			x.Bricks = append(x.Bricks, b)
		}
		before, e := lattice.Overlaps(l, m)
		wantErr(t, m, e, api.OK)
		after, e := lattice.Overlaps(l, x)
		wantErr(t, x, e, api.OK)
		same(t, m, after, before)
	}
}

func TestP1_8Connections(t *testing.T) {
	r := rand.New(rand.NewSource(19))
	for range 200 {
		l := randomKinds(r)
		m := randomModel(r, l, 20)
		in := map[api.Cell]bool{}
		for _, b := range m.Bricks {
			cells, _ := lattice.Cells(l, b)
			for _, c := range cells {
				if in[c] {
					t.Error("a cell in two bricks", c)
				}
				in[c] = true
			}
		}
		links, _ := lattice.Links(l, m)
		met := map[[2]int]bool{}
		for _, k := range links {
			x, _ := lattice.Knobs(l, m.Bricks[k.A])
			y, _ := lattice.Knobs(l, m.Bricks[k.B])
			a, b := x[k.Knob], y[k.Other]
			if next(a) != b.At || next(b) != a.At || !wantFit(a.Sort, b.Sort) || k.A >= k.B {
				t.Error("no connection", k)
			}
			for _, one := range [][2]int{{k.A, k.Knob}, {k.B, k.Other}} {
				if met[one] {
					t.Error("a knob that meets two", one)
				}
				met[one] = true
			}
		}
		holdStrengths(t, l, m, links)
	}
}

// holdStrengths checks that the joints have all links, and their strengths.
func holdStrengths(t *testing.T, l []api.Kind, m api.Model, links []api.Link) {
	t.Helper()
	sum := map[[2]int]int{}
	for _, k := range links {
		sum[[2]int{k.A, k.B}] += map[uint8]int{1: 2, 3: 3, 5: 5}[k.Sort]
	}
	joints, _ := lattice.Joints(l, m)
	for _, j := range joints {
		if j.Strength == 0 || j.Strength != sum[[2]int{j.A, j.B}] {
			t.Error("strength", j)
		}
	}
	if len(joints) != len(sum) {
		t.Error("joints", len(joints), len(sum))
	}
}

func TestP1_9Partition(t *testing.T) {
	r := rand.New(rand.NewSource(23))
	for range 200 {
		l := randomKinds(r)
		m := randomModel(r, l, 20)
		g, _ := lattice.Groups(l, m)
		links, _ := lattice.Links(l, m)
		for i, least := range g {
			if least > i || g[least] != least {
				t.Error("not the least", i, least)
			}
		}
		for _, k := range links {
			if g[k.A] != g[k.B] {
				t.Error("a link between groups", k, g)
			}
		}
		same(t, "groups", g, wantGroups(l, m))
		if len(m.Bricks) == 0 {
			continue
		}
		less := api.Model{Bricks: m.Bricks[:len(m.Bricks)-1]}
		before, _ := lattice.Links(l, less)
		var after []api.Link
		for _, k := range links {
			if k.B < len(less.Bricks) {
				after = append(after, k)
			}
		}
		same(t, "links without the last brick", after, before)
	}
}
