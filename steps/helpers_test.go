package steps_test

import (
	"math"
	"math/rand"
	"reflect"
	"slices"
	"testing"

	"studwork/api"
	"studwork/lattice"
	"studwork/stand"
	"studwork/steps"
)

// The helpers here follow the words of the chapter as plainly as they can. They call the lower layers, which have tests of their own, and no function of package steps, so that tests can hold its results against theirs.

var extremes = []int{math.MinInt, math.MinInt + 1, math.MinInt32, -2001, -2, -1, 41, 2001, math.MaxInt32, math.MaxInt - 1, math.MaxInt}

func cell(x, y, z int) api.Cell { return api.Cell{X: x, Y: y, Z: z} }

func knob(x, y, z int, dir, sort uint8) api.Knob {
	return api.Knob{At: cell(x, y, z), Dir: dir, Sort: sort}
}

func brick(kind, x, y, z int, turn uint8) api.Brick {
	return api.Brick{Kind: kind, At: cell(x, y, z), Turn: turn}
}

func model(l ...api.Brick) api.Model { return api.Model{Bricks: l} }

func rest(table int, hands ...int) api.Rest { return api.Rest{Table: table, Hands: hands} }

func put(brick int, dir uint8) api.Put { return api.Put{Brick: brick, Dir: dir} }

func step(view uint8, l ...api.Put) api.Step { return api.Step{Puts: l, View: view} }

// bar is a kind of n cells in a row, with studs above and tubes below.
func bar(n, weight int) api.Kind {
	k := api.Kind{Weight: weight}
	for x := range n {
		k.Cells = append(k.Cells, cell(x, 0, 0))
		k.Knobs = append(k.Knobs, knob(x, 0, 0, 4, 1), knob(x, 0, 0, 5, 2))
	}
	return k
}

// smooth is a kind of cells without knobs.
func smooth(weight int, cells ...api.Cell) api.Kind { return api.Kind{Cells: cells, Weight: weight} }

// rows is the kind of the chapter's examples.
func rows() []api.Kind { return []api.Kind{bar(3, 3)} }

// cubes is one smooth kind of one cell.
func cubes() []api.Kind { return []api.Kind{smooth(1, cell(0, 0, 0))} }

// first and third are the models of the chapter's examples.
func first() api.Model { return model(brick(0, 0, 0, 0, 0), brick(0, 2, 0, 1, 0)) }

func third() api.Model { return model(append(first().Bricks, brick(0, 2, 0, -1, 0))...) }

// tower is n rows on each other.
func tower(n int) api.Model {
	var m api.Model
	for z := range n {
		m.Bricks = append(m.Bricks, brick(0, 0, 0, z, 0))
	}
	return m
}

// apart is n bricks on the table, with two cells between them.
func apart(n int) api.Model {
	var m api.Model
	for i := range n {
		m.Bricks = append(m.Bricks, brick(0, 0, 3*i, 0, 0))
	}
	return m
}

// corridor is a ring of four walls on the table, and a cube on the table within it.
func corridor() ([]api.Kind, api.Model) {
	wall := smooth(1, cell(0, 0, 0), cell(0, 0, 1))
	return []api.Kind{wall, smooth(1, cell(0, 0, 0))}, model(brick(0, -1, 0, 0, 0), brick(0, 1, 0, 0, 0), brick(0, 0, -1, 0, 0), brick(0, 0, 1, 0, 0), brick(1, 0, 0, 0, 0))
}

// crossed is two kinds, and a brick of each, with links along two axes: neither can come when the other one is there.
func crossed() ([]api.Kind, api.Model) {
	low := smooth(1, cell(0, 0, 0), cell(1, 0, 0), cell(0, 0, 1))
	low.Knobs = []api.Knob{knob(1, 0, 0, 4, 1), knob(0, 0, 1, 0, 5)}
	high := smooth(1, cell(0, 0, 0))
	high.Knobs = []api.Knob{knob(0, 0, 0, 1, 6), knob(0, 0, 0, 5, 2)}
	return []api.Kind{low, high}, model(brick(0, 0, 0, 0, 0), brick(1, 1, 0, 1, 0))
}

// hanging is a row under another one, over a table: held by a hand, the upper one carries the lower one, which can come from below only.
func hanging() api.Model { return model(brick(0, 0, 0, 1, 0), brick(0, 2, 0, 2, 0)) }

func stepAlong(d int) api.Cell {
	return []api.Cell{{X: 1}, {X: -1}, {Y: 1}, {Y: -1}, {Z: 1}, {Z: -1}}[d]
}

// moved moves a cell so many steps against a direction.
func moved(c api.Cell, n, dir int) api.Cell {
	s := stepAlong(dir)
	return cell(c.X-n*s.X, c.Y-n*s.Y, c.Z-n*s.Z)
}

func cellsOf(l []api.Kind, b api.Brick) []api.Cell {
	cells, _ := lattice.Cells(l, b)
	return cells
}

// taken is the cells of the bricks that are there, but for one of them.
func taken(l []api.Kind, m api.Model, there []int, but int) map[api.Cell]bool {
	all := map[api.Cell]bool{}
	for _, i := range there {
		if i == but {
			continue
		}
		for _, c := range cellsOf(l, m.Bricks[i]) {
			all[c] = true
		}
	}
	return all
}

func wantHolds(l []api.Kind, m api.Model, r api.Rest, there []int) bool {
	part, held := api.Model{}, rest(r.Table)
	for n, i := range sorted(there) {
		part.Bricks = append(part.Bricks, m.Bricks[i])
		if slices.Contains(r.Hands, i) {
			held.Hands = append(held.Hands, n)
		}
	}
	fall, e := stand.Falling(l, part, held)
	return e == api.OK && len(fall) == 0
}

func wantWays(l []api.Kind, m api.Model, r api.Rest, there []int, brick int) []int {
	var found []int
	all := taken(l, m, there, -1)
	links, _ := lattice.Links(l, m)
	for dir := range 6 {
		free := true
		for _, c := range cellsOf(l, m.Bricks[brick]) {
			for n := 1; n <= 64; n++ {
				at := moved(c, n, dir)
				free = free && !all[at] && at.Z >= r.Table
			}
		}
		for _, k := range links {
			if k.A == brick && slices.Contains(there, k.B) {
				free = free && dirOf(l, m.Bricks[k.A], k.Knob) == dir
			}
			if k.B == brick && slices.Contains(there, k.A) {
				free = free && dirOf(l, m.Bricks[k.B], k.Other) == dir
			}
		}
		if free {
			found = append(found, dir)
		}
	}
	return found
}

func dirOf(l []api.Kind, b api.Brick, knob int) int {
	knobs, _ := lattice.Knobs(l, b)
	return int(knobs[knob].Dir)
}

// wantSeen looks over the whole lattice.
func wantSeen(l []api.Kind, m api.Model, there []int, dir int) []int {
	var found []int
	for _, i := range sorted(there) {
		others := taken(l, m, there, i)
		if slices.ContainsFunc(cellsOf(l, m.Bricks[i]), func(c api.Cell) bool { return isOpen(others, c, dir) }) {
			found = append(found, i)
		}
	}
	return found
}

func isOpen(others map[api.Cell]bool, c api.Cell, dir int) bool {
	for o := range others {
		d := cell(c.X-o.X, c.Y-o.Y, c.Z-o.Z)
		n := d.X*stepAlong(dir).X + d.Y*stepAlong(dir).Y + d.Z*stepAlong(dir).Z
		if n > 0 && moved(c, n, dir) == o {
			return false
		}
	}
	return true
}

func wantView(l []api.Kind, m api.Model, there []int, puts []api.Put) uint8 {
	var best uint8
	most := -1
	for dir := range 6 {
		n := 0
		for _, i := range wantSeen(l, m, there, dir) {
			if slices.ContainsFunc(puts, func(p api.Put) bool { return p.Brick == i }) {
				n++
			}
		}
		if n > most {
			best, most = uint8(dir), n
		}
	}
	return best
}

// wantOrders returns all good orders, in lexicographic order. It tries all of them.
func wantOrders(l []api.Kind, m api.Model, r api.Rest) [][]int {
	var found [][]int
	var extend func(order []int)
	extend = func(order []int) {
		if len(order) == len(m.Bricks) {
			found = append(found, slices.Clone(order))
		}
		for i := range m.Bricks {
			if slices.Contains(order, i) || len(wantWays(l, m, r, order, i)) == 0 {
				continue
			}
			if next := append(slices.Clone(order), i); wantHolds(l, m, r, next) {
				extend(next)
			}
		}
	}
	extend(nil)
	return found
}

// wantGuide returns the steps of a good order.
func wantGuide(l []api.Kind, m api.Model, r api.Rest, order []int, most int) []api.Step {
	var all []api.Step
	for i, b := range order {
		if i%most == 0 {
			all = append(all, api.Step{})
		}
		x := &all[len(all)-1]
		x.Puts = append(x.Puts, put(b, uint8(wantWays(l, m, r, order[:i], b)[0])))
		x.View = wantView(l, m, order[:i+1], x.Puts)
	}
	return all
}

// wantCheck returns the error of steps for a valid model and rest.
func wantCheck(l []api.Kind, m api.Model, r api.Rest, most int, all []api.Step) api.Errno {
	if most < 1 || most > 8 {
		return api.ErrArg
	}
	times := make([]int, len(m.Bricks))
	for _, x := range all {
		if len(x.Puts) < 1 || len(x.Puts) > most || x.View > 5 {
			return api.ErrSteps
		}
		for _, p := range x.Puts {
			if p.Brick < 0 || p.Brick >= len(times) || p.Dir > 5 {
				return api.ErrSteps
			}
			times[p.Brick]++
		}
	}
	if slices.ContainsFunc(times, func(n int) bool { return n != 1 }) {
		return api.ErrSteps
	}
	var there []int
	for _, x := range all {
		for _, p := range x.Puts {
			if !slices.Contains(wantWays(l, m, r, there, p.Brick), int(p.Dir)) {
				return api.ErrWay
			}
			there = append(there, p.Brick)
			if !wantHolds(l, m, r, there) {
				return api.ErrFalls
			}
		}
		if x.View != wantView(l, m, there, x.Puts) {
			return api.ErrView
		}
	}
	return api.OK
}

// orderOf returns the bricks of steps, in the order in which they are put.
func orderOf(all []api.Step) []int {
	var order []int
	for _, x := range all {
		for _, p := range x.Puts {
			order = append(order, p.Brick)
		}
	}
	return order
}

func copySteps(all []api.Step) []api.Step {
	l := slices.Clone(all)
	for i, x := range l {
		l[i].Puts = slices.Clone(x.Puts)
	}
	return l
}

func sorted(l []int) []int {
	l = slices.Clone(l)
	slices.Sort(l)
	return l
}

func upTo(n int) []int {
	var l []int
	for i := range n {
		l = append(l, i)
	}
	return l
}

// randomKinds has small kinds, most of whose knobs fit those of others when they are not turned.
func randomKinds(r *rand.Rand) []api.Kind {
	most := 1 + r.Intn(60)
	weight := func() int { return 1 + r.Intn(most) }
	l := []api.Kind{bar(1, weight()), bar(2, weight()), bar(3, weight())}
	for range 2 {
		k := smooth(weight())
		for i := range 8 {
			if r.Intn(2) == 0 {
				k.Cells = append(k.Cells, cell(i%2, i/2%2, i/4))
			}
		}
		if len(k.Cells) == 0 {
			k.Cells = []api.Cell{{}}
		}
		odd := uint8(1 + 2*r.Intn(3))
		for _, c := range k.Cells {
			for d := range 6 {
				if r.Intn(3) > 0 && !slices.Contains(k.Cells, moved(c, -1, d)) {
					k.Knobs = append(k.Knobs, api.Knob{At: c, Dir: uint8(d), Sort: odd + uint8(d%2)})
				}
			}
		}
		l = append(l, k)
	}
	return l
}

// randomModel returns a valid model of up to so many bricks near each other, some of which lie far outside.
func randomModel(r *rand.Rand, l []api.Kind, most int) api.Model {
	var m api.Model
	for range 4 * most {
		b := brick(r.Intn(len(l)), r.Intn(4)-1, r.Intn(3)-1, r.Intn(3), uint8(r.Intn(24)))
		if r.Intn(3) > 0 {
			b.Turn %= 4
		}
		if r.Intn(12) == 0 {
			b.At.X += 60 + r.Intn(8)
		}
		if len(m.Bricks) < most && lattice.Check(l, model(append(slices.Clone(m.Bricks), b)...)) == api.OK {
			m.Bricks = append(m.Bricks, b)
		}
	}
	return m
}

// randomRest puts the table below the lowest bricks, or further down, and holds some of the bricks.
func randomRest(r *rand.Rand, l []api.Kind, m api.Model) api.Rest {
	span, _ := lattice.Bounds(l, m)
	held := rest(span.Lo.Z)
	if r.Intn(4) == 0 {
		held.Table -= 1 + r.Intn(70)
	}
	few := 1 + r.Intn(8)
	for i := range m.Bricks {
		if r.Intn(few) == 0 {
			held.Hands = append(held.Hands, i)
		}
	}
	return held
}

// randomSet returns some of n bricks.
func randomSet(r *rand.Rand, n int) []int {
	var l []int
	for i := range n {
		if r.Intn(2) == 0 {
			l = append(l, i)
		}
	}
	return l
}

func wantErr(t *testing.T, what any, got, want api.Errno) {
	t.Helper()
	if got != want {
		t.Errorf("%v: got error %d, want %d", what, got, want)
	}
}

// same holds slices against each other; nil and empty ones are the same.
func same[T comparable](t *testing.T, what any, got, want []T) {
	t.Helper()
	if !slices.Equal(got, want) {
		t.Errorf("%v: got %v, want %v", what, got, want)
	}
}

func sameSteps(t *testing.T, what any, got, want []api.Step) {
	t.Helper()
	if len(got) != 0 || len(want) != 0 {
		if !reflect.DeepEqual(got, want) {
			t.Errorf("%v: got %v, want %v", what, got, want)
		}
	}
}

// isZero tells whether a result is a zero value, or an empty list.
func isZero(v any) bool {
	x := reflect.ValueOf(v)
	if x.Kind() == reflect.Slice {
		return x.Len() == 0
	}
	return x.IsZero()
}

// result is what a call returned beside its error.
type result struct {
	value any
	e     api.Errno
}

// of makes a result of what a call returns.
func of[T any](v T, e api.Errno) result { return result{v, e} }

// call is the arguments of all functions.
type call struct {
	l                []api.Kind
	m                api.Model
	r                api.Rest
	there            []int
	brick, dir, most int
	steps            []api.Step
}

// withRest calls all functions with a rest.
func (c call) withRest() map[string]result {
	return map[string]result{
		"Holds": of(steps.Holds(c.l, c.m, c.r, c.there)),
		"Ways":  of(steps.Ways(c.l, c.m, c.r, c.there, c.brick)),
		"Find":  of(steps.Find(c.l, c.m, c.r, c.most)),
		"Check": {0, steps.Check(c.l, c.m, c.r, c.most, c.steps)},
		"Count": of(steps.Count(c.l, c.m, c.r)),
		"Last":  of(steps.Last(c.l, c.m, c.r)),
	}
}

func (c call) all() map[string]result {
	results := c.withRest()
	results["Seen"] = of(steps.Seen(c.l, c.m, c.there, c.dir))
	return results
}

// allFail checks that calls return an error, and zero values beside it.
func allFail(t *testing.T, what any, calls map[string]result, want api.Errno) {
	t.Helper()
	for name, r := range calls {
		if r.e != want || !isZero(r.value) {
			t.Errorf("%v: %s: got %v with error %d, want error %d", what, name, r.value, r.e, want)
		}
	}
}
