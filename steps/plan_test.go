package steps_test

import (
	"math/rand"
	"slices"
	"testing"

	"studwork/api"
	"studwork/steps"
)

type modelError struct {
	l    []api.Kind
	m    api.Model
	want api.Errno
}

func badModels() []modelError {
	return []modelError{
		{make([]api.Kind, 17), model(brick(99, 0, 0, 0, 0)), api.ErrMany},
		{[]api.Kind{{}}, first(), api.ErrKind},
		{rows(), api.Model{Bricks: make([]api.Brick, 41)}, api.ErrMany},
		{rows(), model(brick(1, 0, 0, 0, 0), brick(0, 0, 0, 0, 0), brick(0, 0, 0, 0, 0)), api.ErrBrick},
		{nil, model(api.Brick{}), api.ErrBrick},
		{rows(), model(brick(0, 0, 0, 0, 0), brick(0, 2, 0, 0, 0)), api.ErrOverlap},
	}
}

// The errors of layers 1 and 3 come first, whatever the other arguments are.
func TestP6_1ErrorsOfModelsAndRests(t *testing.T) {
	for i, x := range badModels() {
		good := call{l: x.l, m: x.m, most: 1}
		bad := call{l: x.l, m: x.m, r: rest(9999, -5), there: []int{-1}, brick: -1, dir: 6, steps: []api.Step{{}}}
		allFail(t, i, good.all(), x.want)
		allFail(t, i, bad.all(), x.want)
	}
	for _, r := range []api.Rest{rest(1), rest(2001), rest(-2001), rest(0, 2), rest(0, -1), rest(0, 1, 0), rest(0, 1, 1)} {
		good := call{l: rows(), m: first(), r: r, there: []int{0}, brick: 1, most: 1, steps: []api.Step{step(0, put(0, 0)), step(0, put(1, 5))}}
		bad := call{l: rows(), m: first(), r: r, there: []int{9}, brick: 9, dir: 9, steps: []api.Step{{}}}
		allFail(t, r, good.withRest(), api.ErrRest)
		allFail(t, r, bad.withRest(), api.ErrRest)
	}
	// More bricks than a plan may have, with a table that is too high.
	allFail(t, "high", call{l: rows(), m: tower(11), r: rest(1), most: 1}.withRest(), api.ErrRest)
}

func wantHeld(t *testing.T, l []api.Kind, m api.Model, r api.Rest, there []int, want bool) {
	t.Helper()
	ok, e := steps.Holds(l, m, r, there)
	if e != api.OK || ok != want {
		t.Error(m, r, there, ok, e)
	}
}

func TestP6_1Holds(t *testing.T) {
	for _, x := range []struct {
		m     api.Model
		r     api.Rest
		there []int
		want  bool
	}{
		{first(), rest(0), nil, true},
		{first(), rest(0), []int{}, true},
		{first(), rest(0), []int{0}, true},
		{first(), rest(0), []int{1}, false},
		{first(), rest(0), []int{0, 1}, true},
		{first(), rest(-1), []int{0, 1}, false},
		{first(), rest(-1), nil, true},
		{model(), rest(0), nil, true},
		{third(), rest(-1), []int{0, 2}, true},
		{third(), rest(-1), []int{0, 1}, false},
		{third(), rest(-1), []int{1, 2}, false},
		// Hands that are not there hold nothing, and those that are there hold the bricks that they did.
		{first(), rest(-1, 1), []int{0}, false},
		{first(), rest(-1, 1), []int{1}, true},
		{first(), rest(-1, 1), []int{0, 1}, true},
		{first(), rest(-1, 0), []int{1}, false},
		{third(), rest(-2, 0, 2), []int{1, 2}, false},
		{third(), rest(-2, 1, 2), []int{1, 2}, true},
		{third(), rest(-2, 0, 2), []int{2}, true},
		{third(), rest(-2, 0, 1), []int{0, 2}, true},
		{third(), rest(-2, 1), []int{0, 2}, false},
	} {
		wantHeld(t, rows(), x.m, x.r, x.there, x.want)
	}
}

// A stud carries 20: a brick of 20 holds below it, and one of 21 does not.
func TestP6_1HoldsByStrength(t *testing.T) {
	for weight, want := range map[int]bool{20: true, 21: false} {
		wantHeld(t, []api.Kind{bar(1, weight)}, tower(3), rest(-9, 1), []int{0, 1}, want)
		wantHeld(t, []api.Kind{bar(1, weight)}, tower(3), rest(-9, 1), []int{0, 1, 2}, want)
		wantHeld(t, []api.Kind{bar(1, weight)}, tower(3), rest(-9, 1), []int{1, 2}, true)
	}
	// Forty bricks are as many as a model has.
	wantHeld(t, rows(), tower(40), rest(0), upTo(40), true)
	wantHeld(t, rows(), tower(40), rest(0), upTo(40)[1:], false)
	wantHeld(t, rows(), tower(40), rest(0, 39), []int{39}, true)
	wantHeld(t, rows(), tower(40), rest(0, 39), []int{38, 39}, true)
}

func TestP6_1HoldsOfAnySets(t *testing.T) {
	rnd := rand.New(rand.NewSource(61))
	seen := map[bool]int{}
	for range 300 {
		l := randomKinds(rnd)
		m := randomModel(rnd, l, 8)
		r := randomRest(rnd, l, m)
		there := randomSet(rnd, len(m.Bricks))
		want := wantHolds(l, m, r, there)
		wantHeld(t, l, m, r, there, want)
		seen[want]++
	}
	if seen[true] < 50 || seen[false] < 50 {
		t.Error("too few of one sort", seen)
	}
}

func waysAre(t *testing.T, l []api.Kind, m api.Model, r api.Rest, there []int, brick int, want ...int) {
	t.Helper()
	found, e := steps.Ways(l, m, r, there, brick)
	wantErr(t, m, e, api.OK)
	same(t, []any{m, r, there, brick}, found, want)
}

func TestP6_1WaysExamples(t *testing.T) {
	waysAre(t, rows(), first(), rest(0), []int{0}, 1, 5)
	waysAre(t, rows(), first(), rest(0), []int{1}, 0)
	waysAre(t, rows(), first(), rest(0), nil, 0, 0, 1, 2, 3, 5)
	waysAre(t, rows(), first(), rest(-100), []int{1}, 0, 4)
}

// The last of 64 steps may be at the height of the table, and not below it.
func TestP6_1WaysThroughTheTable(t *testing.T) {
	for table, want := range map[int][]int{-64: {0, 1, 2, 3, 4, 5}, -63: {0, 1, 2, 3, 5}, -2000: {0, 1, 2, 3, 4, 5}, 0: {0, 1, 2, 3, 5}} {
		waysAre(t, cubes(), model(brick(0, 0, 0, 0, 0)), rest(table), nil, 0, want...)
	}
	// The lowest cell counts, also if the brick is turned over.
	l := []api.Kind{smooth(1, cell(0, 0, 0), cell(0, 0, 1), cell(0, 0, 2))}
	for table, want := range map[int][]int{-66: {0, 1, 2, 3, 4, 5}, -65: {0, 1, 2, 3, 5}} {
		waysAre(t, l, model(brick(0, 0, 0, 0, 8)), rest(table), nil, 0, want...)
	}
}

// A brick 64 steps away is in the way, and one that is a step further is not.
func TestP6_1WaysAre64Long(t *testing.T) {
	for dir := range 6 {
		for far, free := range map[int]bool{1: false, 2: false, 63: false, 64: false, 65: true, 66: true} {
			c := moved(cell(0, 0, 0), far, dir)
			m := model(brick(0, 0, 0, 0, 0), brick(0, c.X, c.Y, c.Z, 0))
			found, e := steps.Ways(cubes(), m, rest(-200), []int{1}, 0)
			if e != api.OK || len(found) != 5 && !free || slices.Contains(found, dir) != free {
				t.Error(dir, far, found, e)
			}
			// Without it there, all ways are free.
			waysAre(t, cubes(), m, rest(-200), nil, 0, 0, 1, 2, 3, 4, 5)
		}
	}
}

// Each cell of a brick needs its way, its own other cells are not in it, and neither is what lies beside it.
func TestP6_1WaysOfAllCells(t *testing.T) {
	l := []api.Kind{smooth(1, cell(0, 0, 0), cell(2, 0, 0)), smooth(1, cell(0, 0, 0))}
	waysAre(t, l, model(brick(0, 0, 0, 0, 0)), rest(-100), nil, 0, 0, 1, 2, 3, 4, 5)
	for at, want := range map[api.Cell][]int{
		cell(1, 0, 0):   {2, 3, 4, 5},
		cell(0, 5, 0):   {0, 1, 2, 4, 5},
		cell(2, 5, 0):   {0, 1, 2, 4, 5},
		cell(2, 0, -9):  {0, 1, 2, 3, 5},
		cell(1, 0, 4):   {0, 1, 2, 3, 4, 5},
		cell(-64, 0, 0): {1, 2, 3, 4, 5},
		cell(-62, 0, 0): {1, 2, 3, 4, 5},
		cell(-65, 0, 0): {0, 1, 2, 3, 4, 5},
		cell(66, 0, 0):  {0, 2, 3, 4, 5},
		cell(67, 0, 0):  {0, 1, 2, 3, 4, 5},
		cell(3, 1, 0):   {0, 1, 2, 3, 4, 5},
	} {
		waysAre(t, l, model(brick(0, 0, 0, 0, 0), brick(1, at.X, at.Y, at.Z, 0)), rest(-200), []int{1}, 0, want...)
	}
	walls, m := corridor()
	waysAre(t, walls, m, rest(0), upTo(4), 4, 5)
	waysAre(t, walls, m, rest(0), []int{1, 2, 3}, 4, 0, 5)
	waysAre(t, walls, m, rest(0), []int{0, 1}, 4, 2, 3, 5)
	waysAre(t, walls, m, rest(-100), []int{0, 1, 2, 4}, 3, 0, 1, 3, 4, 5)
}

// Knobs that meet leave the direction of the brick's own knob, studs and tubes as well as bars, clips, pins and holes.
func TestP6_1WaysOfLinks(t *testing.T) {
	for dir := range 6 {
		for sort := range 6 {
			at := stepAlong(dir)
			l := []api.Kind{smooth(1, cell(0, 0, 0)), smooth(1, cell(0, 0, 0))}
			l[0].Knobs = []api.Knob{knob(0, 0, 0, uint8(dir), uint8(sort+1))}
			l[1].Knobs = []api.Knob{knob(0, 0, 0, uint8(dir^1), uint8((sort^1)+1))}
			m := model(brick(0, 0, 0, 0, 0), brick(1, at.X, at.Y, at.Z, 0))
			waysAre(t, l, m, rest(-200), []int{1}, 0, dir)
			waysAre(t, l, m, rest(-200), []int{0}, 1, dir^1)
			// The same knob, without one that fits it, leaves all directions that are free.
			l[1].Knobs[0].Sort = uint8(sort + 1)
			found, e := steps.Ways(l, m, rest(-200), []int{1}, 0)
			if e != api.OK || len(found) != 5 || slices.Contains(found, dir^1) {
				t.Error(dir, sort, found, e)
			}
		}
	}
	l, m := crossed()
	waysAre(t, l, m, rest(0), []int{0}, 1)
	waysAre(t, l, m, rest(-200), []int{1}, 0)
	waysAre(t, l, m, rest(-200), nil, 0, 0, 1, 2, 3, 4, 5)
	// A link in a direction in which something else is.
	waysAre(t, rows(), tower(3), rest(0), []int{0, 2}, 1)
	waysAre(t, rows(), tower(3), rest(0), []int{0}, 1, 5)
	waysAre(t, rows(), tower(3), rest(-100), []int{2}, 1, 4)
}

// The direction of a knob is that of the brick as it is placed.
func TestP6_1WaysOfTurnedKnobs(t *testing.T) {
	l := []api.Kind{bar(1, 1)}
	waysAre(t, l, model(brick(0, 0, 0, 0, 8), brick(0, 0, 0, 1, 8)), rest(0), []int{0}, 1, 5)
	waysAre(t, l, model(brick(0, 0, 0, 0, 4), brick(0, 0, 1, 0, 4)), rest(0), []int{0}, 1, 3)
	waysAre(t, l, model(brick(0, 0, 0, 0, 4), brick(0, 0, 1, 0, 4)), rest(0), []int{1}, 0, 2)
}

func TestP6_1WaysOfAnyBricks(t *testing.T) {
	rnd := rand.New(rand.NewSource(62))
	counts := make([]int, 7)
	for range 300 {
		l := randomKinds(rnd)
		m := randomModel(rnd, l, 8)
		r := randomRest(rnd, l, m)
		i := rnd.Intn(len(m.Bricks))
		there := slices.DeleteFunc(randomSet(rnd, len(m.Bricks)), func(b int) bool { return b == i })
		want := wantWays(l, m, r, there, i)
		waysAre(t, l, m, r, there, i, want...)
		counts[len(want)]++
	}
	for n, count := range counts {
		if count == 0 {
			t.Error("never so many ways", n)
		}
	}
}

func seenAre(t *testing.T, l []api.Kind, m api.Model, there []int, dir int, want ...int) {
	t.Helper()
	found, e := steps.Seen(l, m, there, dir)
	wantErr(t, m, e, api.OK)
	same(t, []any{m, there, dir}, found, want)
}

func TestP6_1SeenExamples(t *testing.T) {
	seenAre(t, rows(), first(), []int{0, 1}, 5, 0, 1)
	seenAre(t, rows(), first(), []int{0, 1}, 1, 0, 1)
}

// One cell that is open is enough; what hides it may be any distance away, and is no cell of the brick itself.
func TestP6_1Seen(t *testing.T) {
	seenAre(t, rows(), tower(4), upTo(4), 5, 3)
	seenAre(t, rows(), tower(4), upTo(4), 4, 0)
	seenAre(t, rows(), tower(4), upTo(4), 0, 0, 1, 2, 3)
	seenAre(t, rows(), tower(4), []int{1, 2}, 5, 2)
	seenAre(t, rows(), tower(4), []int{1}, 5, 1)
	seenAre(t, rows(), tower(4), nil, 5)
	seenAre(t, nil, model(), nil, 0)
	for dir := range 6 {
		for _, n := range []int{1, 2, 64, 65, 1000, 2000} {
			a, b := moved(cell(0, 0, 0), n/2, dir), moved(cell(0, 0, 0), n/2-n, dir)
			m := model(brick(0, a.X, a.Y, a.Z, 0), brick(0, b.X, b.Y, b.Z, 0))
			seenAre(t, cubes(), m, []int{0, 1}, dir, 0)
			seenAre(t, cubes(), m, []int{0, 1}, dir^1, 1)
			seenAre(t, cubes(), m, []int{1}, dir, 1)
			seenAre(t, cubes(), m, []int{0, 1}, (dir+2)%6, 0, 1)
		}
	}
	// A roof over two cells of three, and over all of them, by two bricks.
	l := []api.Kind{smooth(1, cell(0, 0, 0), cell(1, 0, 0), cell(2, 0, 0)), smooth(1, cell(0, 0, 0), cell(1, 0, 0))}
	m := model(brick(0, 0, 0, 0, 0), brick(1, 0, 0, 9, 0), brick(1, 2, 0, 7, 0))
	seenAre(t, l, m, []int{0, 1}, 5, 0, 1)
	seenAre(t, l, m, []int{0, 2}, 5, 0, 2)
	seenAre(t, l, m, upTo(3), 5, 1, 2)
	// The inner cells of a hook are hidden by its own only.
	hook := smooth(1, cell(0, 0, 0), cell(0, 0, 1), cell(0, 0, 2))
	seenAre(t, []api.Kind{hook}, model(brick(0, 0, 0, 0, 0)), []int{0}, 4, 0)
	walls, ring := corridor()
	seenAre(t, walls, ring, upTo(5), 0, 0, 2, 3)
	seenAre(t, walls, ring, upTo(5), 5, 0, 1, 2, 3, 4)
	seenAre(t, walls, ring, []int{0, 1, 2, 4}, 3, 0, 1, 2, 4)
}

func TestP6_1SeenOfAnyBricks(t *testing.T) {
	rnd := rand.New(rand.NewSource(63))
	hidden := 0
	for range 300 {
		l := randomKinds(rnd)
		m := randomModel(rnd, l, 10)
		there := randomSet(rnd, len(m.Bricks))
		for dir := range 6 {
			want := wantSeen(l, m, there, dir)
			seenAre(t, l, m, there, dir, want...)
			hidden += len(there) - len(want)
		}
	}
	if hidden < 300 {
		t.Error("too few are hidden", hidden)
	}
}

func TestP6_1ErrArg(t *testing.T) {
	args := func(there []int, brick, dir int) map[string]result {
		return map[string]result{
			"Holds": of(steps.Holds(rows(), first(), rest(0), there)),
			"Ways":  of(steps.Ways(rows(), first(), rest(0), there, brick)),
			"Seen":  of(steps.Seen(rows(), first(), there, dir)),
		}
	}
	sets := [][]int{{2}, {0, 2}, {1, 0}, {0, 0}, {1, 1}, {0, 1, 1}, {0, 1, 2}}
	for _, n := range extremes {
		sets = append(sets, []int{n}, []int{0, n}, []int{n, 1})
		_, e := steps.Ways(rows(), first(), rest(0), nil, n)
		wantErr(t, n, e, api.ErrArg)
		_, e = steps.Seen(rows(), first(), nil, n)
		wantErr(t, n, e, api.ErrArg)
	}
	for _, there := range sets {
		allFail(t, there, args(there, 0, 0), api.ErrArg)
	}
	for _, x := range []struct {
		there []int
		brick int
	}{{[]int{0}, 0}, {[]int{0, 1}, 1}, {[]int{1}, 1}, {nil, 2}, {nil, -1}, {[]int{0, 1}, 2}} {
		l, e := steps.Ways(rows(), first(), rest(0), x.there, x.brick)
		allFail(t, x, map[string]result{"Ways": {l, e}}, api.ErrArg)
	}
	for _, dir := range []int{-1, 6, 256} {
		l, e := steps.Seen(rows(), first(), []int{0}, dir)
		allFail(t, dir, map[string]result{"Seen": {l, e}}, api.ErrArg)
	}
	allFail(t, "no bricks", map[string]result{
		"Holds": of(steps.Holds(nil, model(), rest(0), []int{0})),
		"Ways":  of(steps.Ways(nil, model(), rest(0), nil, 0)),
		"Seen":  of(steps.Seen(nil, model(), []int{0}, 0)),
	}, api.ErrArg)
}

// With fewer bricks no way is lost, and no brick that stays is seen less.
func TestP6_6FewerBricks(t *testing.T) {
	rnd := rand.New(rand.NewSource(66))
	for range 100 {
		l := randomKinds(rnd)
		m := randomModel(rnd, l, 10)
		r := randomRest(rnd, l, m)
		there := randomSet(rnd, len(m.Bricks))
		for i := range m.Bricks {
			fewer := slices.DeleteFunc(slices.Clone(there), func(b int) bool { return b == i })
			for dir := range 6 {
				all, _ := steps.Seen(l, m, there, dir)
				left, e := steps.Seen(l, m, fewer, dir)
				wantErr(t, m, e, api.OK)
				all = slices.DeleteFunc(all, func(b int) bool { return b == i })
				wantHas(t, m, left, all)
			}
			for b := range m.Bricks {
				if !slices.Contains(there, b) {
					all, _ := steps.Ways(l, m, r, there, b)
					left, e := steps.Ways(l, m, r, fewer, b)
					wantErr(t, m, e, api.OK)
					wantHas(t, m, left, all)
				}
			}
		}
	}
}

// wantHas checks that a list has all of another one.
func wantHas(t *testing.T, what any, l, part []int) {
	t.Helper()
	for _, i := range part {
		if !slices.Contains(l, i) {
			t.Error(what, "lost", i, l, part)
		}
	}
}

// What is seen from above has a cell with nothing of others above it; something is always seen.
func TestP6_8Above(t *testing.T) {
	rnd := rand.New(rand.NewSource(68))
	for range 200 {
		l := randomKinds(rnd)
		m := randomModel(rnd, l, 12)
		there := upTo(len(m.Bricks))
		for dir := range 6 {
			found, e := steps.Seen(l, m, there, dir)
			if e != api.OK || len(found) == 0 {
				t.Error(m, dir, found, e)
			}
		}
		above, _ := steps.Seen(l, m, there, 5)
		for i, b := range m.Bricks {
			others := taken(l, m, there, i)
			free := slices.ContainsFunc(cellsOf(l, b), func(c api.Cell) bool {
				for z := c.Z + 1; z < 30; z++ {
					if others[cell(c.X, c.Y, z)] {
						return false
					}
				}
				return true
			})
			if free != slices.Contains(above, i) {
				t.Error(m, i, above)
			}
		}
	}
}
