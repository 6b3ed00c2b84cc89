package lattice_test

import (
	"math"
	"math/rand"
	"reflect"
	"slices"
	"testing"

	"studwork/api"
	"studwork/lattice"
)

// The helpers here follow the words of the chapter as plainly as they can, and call no function of the package, so that tests can hold its results against theirs.

var extremes = []int{math.MinInt, math.MinInt + 1, math.MinInt32, -2001, -1001, -1, 24, 1001, 2001, math.MaxInt32, math.MaxInt - 1, math.MaxInt}

func cell(x, y, z int) api.Cell { return api.Cell{X: x, Y: y, Z: z} }

func knob(x, y, z int, dir, sort uint8) api.Knob {
	return api.Knob{At: cell(x, y, z), Dir: dir, Sort: sort}
}

func brick(kind, x, y, z int, turn uint8) api.Brick {
	return api.Brick{Kind: kind, At: cell(x, y, z), Turn: turn}
}

func model(l ...api.Brick) api.Model { return api.Model{Bricks: l} }

// plate is the plate of the chapter's examples.
func plate() api.Kind {
	return api.Kind{
		Cells:  []api.Cell{{}, cell(1, 0, 0)},
		Knobs:  []api.Knob{knob(0, 0, 0, 4, 1), knob(0, 0, 0, 5, 2), knob(1, 0, 0, 4, 1), knob(1, 0, 0, 5, 2)},
		Weight: 2,
	}
}

func plates() []api.Kind { return []api.Kind{plate()} }

// box is a kind of w * d * h cells without knobs.
func box(w, d, h int) api.Kind {
	k := api.Kind{Weight: 1}
	for z := range h {
		for y := range d {
			for x := range w {
				k.Cells = append(k.Cells, cell(x, y, z))
			}
		}
	}
	return k
}

func lessCell(a, b api.Cell) bool {
	if a.Z != b.Z {
		return a.Z < b.Z
	}
	if a.Y != b.Y {
		return a.Y < b.Y
	}
	return a.X < b.X
}

func sortCells(l []api.Cell) {
	slices.SortFunc(l, func(a, b api.Cell) int {
		if lessCell(a, b) {
			return -1
		}
		if lessCell(b, a) {
			return 1
		}
		return 0
	})
}

func stepAlong(d int) api.Cell {
	return []api.Cell{{X: 1}, {X: -1}, {Y: 1}, {Y: -1}, {Z: 1}, {Z: -1}}[d]
}

func plus(a, b api.Cell) api.Cell { return cell(a.X+b.X, a.Y+b.Y, a.Z+b.Z) }

func minus(a, b api.Cell) api.Cell { return cell(a.X-b.X, a.Y-b.Y, a.Z-b.Z) }

func next(k api.Knob) api.Cell { return plus(k.At, stepAlong(int(k.Dir))) }

// wantTurn turns a cell as the section Terms says.
func wantTurn(c api.Cell, n int) api.Cell {
	z := func() { c = cell(-c.Y, c.X, c.Z) }
	x := func() { c = cell(c.X, -c.Z, c.Y) }
	for range n % 4 {
		z()
	}
	switch n / 4 {
	case 3:
		x()
		fallthrough
	case 2:
		x()
		fallthrough
	case 1:
		x()
	case 4:
		x()
		z()
	case 5:
		x()
		z()
		z()
		z()
	}
	return c
}

func wantDirection(d, n int) int {
	for i := range 6 {
		if stepAlong(i) == wantTurn(stepAlong(d), n) {
			return i
		}
	}
	panic("no direction")
}

func wantCells(k api.Kind, b api.Brick) []api.Cell {
	var l []api.Cell
	for _, c := range k.Cells {
		l = append(l, plus(wantTurn(c, int(b.Turn)), b.At))
	}
	sortCells(l)
	return l
}

func wantKnobs(k api.Kind, b api.Brick) []api.Knob {
	var l []api.Knob
	for _, o := range k.Knobs {
		o.At = plus(wantTurn(o.At, int(b.Turn)), b.At)
		o.Dir = uint8(wantDirection(int(o.Dir), int(b.Turn)))
		l = append(l, o)
	}
	return l
}

func wantFit(a, b uint8) bool {
	return slices.Contains([][2]uint8{{1, 2}, {2, 1}, {3, 4}, {4, 3}, {5, 6}, {6, 5}}, [2]uint8{a, b})
}

func wantMeet(a, b api.Knob) bool {
	return next(a) == b.At && a.Dir^b.Dir == 1 && wantFit(a.Sort, b.Sort)
}

func wantOverlaps(l []api.Kind, m api.Model) [][2]int {
	var pairs [][2]int
	for a, x := range m.Bricks {
		for b := a + 1; b < len(m.Bricks); b++ {
			y := m.Bricks[b]
			theirs := wantCells(l[y.Kind], y)
			if slices.ContainsFunc(wantCells(l[x.Kind], x), func(c api.Cell) bool { return slices.Contains(theirs, c) }) {
				pairs = append(pairs, [2]int{a, b})
			}
		}
	}
	return pairs
}

func wantLinks(l []api.Kind, m api.Model) []api.Link {
	var knobs [][]api.Knob
	for _, b := range m.Bricks {
		knobs = append(knobs, wantKnobs(l[b.Kind], b))
	}
	var found []api.Link
	for a := range knobs {
		for b := a + 1; b < len(knobs); b++ {
			for i, k := range knobs[a] {
				for j, o := range knobs[b] {
					if wantMeet(k, o) {
						found = append(found, api.Link{A: a, B: b, Knob: i, Other: j, Sort: (k.Sort-1)/2*2 + 1})
					}
				}
			}
		}
	}
	return found
}

// wantJoints makes the joints out of links, with both knobs of each.
func wantJoints(l []api.Kind, m api.Model) []api.Joint {
	var found []api.Joint
	links := wantLinks(l, m)
	for a, x := range m.Bricks {
		for b := a + 1; b < len(m.Bricks); b++ {
			y := m.Bricks[b]
			j := api.Joint{A: a, B: b}
			var knobs []api.Knob
			bars := true
			for _, k := range links {
				if k.A == a && k.B == b {
					j.Strength += map[uint8]int{1: 2, 3: 3, 5: 5}[k.Sort]
					bars = bars && k.Sort == 3
					knobs = append(knobs, wantKnobs(l[x.Kind], x)[k.Knob], wantKnobs(l[y.Kind], y)[k.Other])
				}
			}
			if len(knobs) > 0 {
				j.Axis = wantAxis(knobs)
				j.Slides = bars && j.Axis != 0
				found = append(found, j)
			}
		}
	}
	return found
}

func wantAxis(l []api.Knob) uint8 {
	for axis := range 3 {
		good := true
		for _, k := range l {
			d := minus(k.At, l[0].At)
			off := [3]int{d.X, d.Y, d.Z}
			off[axis] = 0
			good = good && int(k.Dir)/2 == axis && off == [3]int{}
		}
		if good {
			return uint8(axis + 1)
		}
	}
	return 0
}

// wantGroups takes the least number along each joint until nothing changes.
func wantGroups(l []api.Kind, m api.Model) []int {
	var g []int
	for i := range m.Bricks {
		g = append(g, i)
	}
	joints := wantJoints(l, m)
	for changed := true; changed; {
		changed = false
		for _, j := range joints {
			if g[j.A] != g[j.B] {
				least := min(g[j.A], g[j.B])
				g[j.A], g[j.B], changed = least, least, true
			}
		}
	}
	return g
}

// look is all by which two bricks of a kind and a colour look alike.
func look(k api.Kind, b api.Brick) ([]api.Cell, map[api.Knob]bool) {
	set := map[api.Knob]bool{}
	for _, o := range wantKnobs(k, b) {
		set[o] = true
	}
	return wantCells(k, b), set
}

func alike(l []api.Kind, a, b api.Brick) bool {
	if a.Kind != b.Kind || a.Color != b.Color {
		return false
	}
	c, k := look(l[a.Kind], a)
	d, o := look(l[b.Kind], b)
	return slices.Equal(c, d) && reflect.DeepEqual(k, o)
}

// freeKnobs returns knobs on all faces of a kind at which there is no cell of it.
func freeKnobs(cells []api.Cell, sort func() uint8) []api.Knob {
	var l []api.Knob
	for _, c := range cells {
		for d := range 6 {
			k := api.Knob{At: c, Dir: uint8(d), Sort: sort()}
			if !slices.Contains(cells, next(k)) {
				l = append(l, k)
			}
		}
	}
	return l
}

// randomKind returns a valid kind: cells anywhere in a small cube (they need not hang together), with knobs on some faces.
func randomKind(r *rand.Rand) api.Kind {
	k := api.Kind{Weight: 1 + r.Intn(100)}
	side, want := 1+r.Intn(3), 1+r.Intn(5)
	for z := range side {
		for y := range side {
			for x := range side {
				if r.Intn(side*side*side) < want && len(k.Cells) < api.MaxCells {
					k.Cells = append(k.Cells, cell(x, y, z))
				}
			}
		}
	}
	if len(k.Cells) == 0 {
		k.Cells = []api.Cell{cell(r.Intn(16), r.Intn(16), r.Intn(16))}
	}
	sorts := 1 + r.Intn(6)
	for _, o := range freeKnobs(k.Cells, func() uint8 { return uint8(1 + r.Intn(sorts)) }) {
		if r.Intn(3) > 0 && len(k.Knobs) < api.MaxKnobs {
			k.Knobs = append(k.Knobs, o)
		}
	}
	return k
}

// randomKinds always has two cubes that fit at many of their faces, so that there are links.
func randomKinds(r *rand.Rand) []api.Kind {
	odd, even := box(1, 1, 1), box(1, 1, 1)
	for d := range uint8(6) {
		odd.Knobs = append(odd.Knobs, knob(0, 0, 0, d, uint8(1+2*r.Intn(2))))
		even.Knobs = append(even.Knobs, knob(0, 0, 0, d, uint8(2+2*r.Intn(2))))
	}
	l := []api.Kind{odd, even, plate()}
	for range r.Intn(4) {
		l = append(l, randomKind(r))
	}
	return l
}

func randomBrick(r *rand.Rand, kinds, around int) api.Brick {
	at := func() int { return r.Intn(2*around+1) - around }
	return api.Brick{Kind: r.Intn(kinds), At: cell(at(), at(), at()), Turn: uint8(r.Intn(24)), Color: uint8(r.Intn(16))}
}

// randomModel returns a valid model of bricks near each other. Most places are tried when they are taken already.
func randomModel(r *rand.Rand, l []api.Kind, most int) api.Model {
	var m api.Model
	taken := map[api.Cell]bool{}
	for range 5 * most {
		b := randomBrick(r, len(l), 2)
		cells := wantCells(l[b.Kind], b)
		if len(m.Bricks) == most || slices.ContainsFunc(cells, func(c api.Cell) bool { return taken[c] }) {
			continue
		}
		for _, c := range cells {
			taken[c] = true
		}
		m.Bricks = append(m.Bricks, b)
	}
	return m
}

// same holds slices against each other; nil and empty ones are the same.
func same[T comparable](t *testing.T, what any, got, want []T) {
	t.Helper()
	if !slices.Equal(got, want) {
		t.Errorf("%v: got %v, want %v", what, got, want)
	}
}

func wantErr(t *testing.T, what any, got, want api.Errno) {
	t.Helper()
	if got != want {
		t.Errorf("%v: got error %d, want %d", what, got, want)
	}
}

// isZero tells whether a result is a zero value, or an empty list.
func isZero(v any) bool {
	x := reflect.ValueOf(v)
	if x.Kind() == reflect.Slice {
		return x.Len() == 0
	}
	return x.IsZero()
}

// result is what a call returned beside its error.
type result struct {
	value any
	e     api.Errno
}

// of makes a result of what a call returns.
func of[T any](v T, e api.Errno) result { return result{v, e} }

// withModel calls all functions with a model. Move is called with arguments that are valid themselves.
func withModel(l []api.Kind, m api.Model) map[string]result {
	return map[string]result{
		"Check":  {nil, lattice.Check(l, m)},
		"Links":  of(lattice.Links(l, m)),
		"Joints": of(lattice.Joints(l, m)),
		"Groups": of(lattice.Groups(l, m)),
		"Bounds": of(lattice.Bounds(l, m)),
		"Move":   of(lattice.Move(l, m, 3, cell(1, 2, 3))),
	}
}

// withBrick calls all functions with a brick.
func withBrick(l []api.Kind, b api.Brick) map[string]result {
	return map[string]result{
		"Cells":  of(lattice.Cells(l, b)),
		"Knobs":  of(lattice.Knobs(l, b)),
		"Normal": of(lattice.Normal(l, b)),
	}
}

// allFail checks that calls return an error, and zero values beside it.
func allFail(t *testing.T, what any, calls map[string]result, want api.Errno) {
	t.Helper()
	for name, r := range calls {
		if r.e != want {
			t.Errorf("%v: %s: got error %d, want %d", what, name, r.e, want)
		}
		if r.value != nil && !isZero(r.value) {
			t.Errorf("%v: %s: result %v with an error", what, name, r.value)
		}
	}
}
