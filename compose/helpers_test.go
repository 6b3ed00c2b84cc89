package compose_test

import (
	"math"
	"math/rand"
	"reflect"
	"slices"
	"testing"

	"studwork/api"
	"studwork/compose"
)

// The helpers here follow the words of the chapter as plainly as they can, and call no function of package compose, so that tests can hold its results against theirs.

var extremes = []int{math.MinInt, math.MinInt + 1, math.MinInt32, -1001, -1, 9, 17, 100, math.MaxInt32, math.MaxInt - 1, math.MaxInt}

func cell(x, y, z int) api.Cell { return api.Cell{X: x, Y: y, Z: z} }

func shape(w, d, h int, cells ...uint8) api.Shape { return api.Shape{W: w, D: d, H: h, Cells: cells} }

// filled is a shape that is full in one colour.
func filled(w, d, h int, color uint8) api.Shape {
	return shape(w, d, h, slices.Repeat([]uint8{color}, w*d*h)...)
}

func plate(w, d, n int, color uint8) api.Plate { return api.Plate{W: w, D: d, N: n, Color: color} }

func laid(plate, x, y, z int) api.Laid { return api.Laid{Plate: plate, At: cell(x, y, z)} }

func turned(plate, x, y, z int) api.Laid {
	return api.Laid{Plate: plate, At: cell(x, y, z), Turned: true}
}

func list[T any](l ...T) []T { return l }

// first is the first shape of the chapter's examples, and few are its plates, with so many of each.
func first() api.Shape { return filled(2, 1, 2, 3) }

func few(ones, twos int) []api.Plate { return list(plate(1, 1, ones, 0), plate(1, 2, twos, 0)) }

// singles are four plates of one cell that cover the first shape.
func singles() []api.Laid {
	return list(laid(0, 0, 0, 0), laid(0, 1, 0, 0), laid(0, 0, 0, 1), laid(0, 1, 0, 1))
}

// doubles are two plates of two cells that cover it.
func doubles() []api.Laid { return list(turned(1, 0, 0, 0), turned(1, 0, 0, 1)) }

func between(n, lo, hi int) bool { return lo <= n && n <= hi }

func wantShape(s api.Shape) bool {
	if !between(s.W, 1, 8) || !between(s.D, 1, 8) || !between(s.H, 1, 4) || len(s.Cells) != s.W*s.D*s.H {
		return false
	}
	n := len(slices.DeleteFunc(slices.Clone(s.Cells), func(c uint8) bool { return c == 0 }))
	return between(n, 1, 16) && slices.Max(s.Cells) <= 15
}

func wantPlates(l []api.Plate) bool {
	if !between(len(l), 1, 8) {
		return false
	}
	for i, p := range l {
		if p.W < 1 || p.W > p.D || p.D > 8 || !between(p.N, 0, 99) || p.Color > 15 {
			return false
		}
		for j, o := range l {
			if i != j && p.W == o.W && p.D == o.D && (p.Color == 0 || p.Color == o.Color) {
				return false
			}
		}
	}
	return slices.IsSortedFunc(l, func(a, b api.Plate) int {
		return 10000*(a.W-b.W) + 100*(a.D-b.D) + int(a.Color) - int(b.Color)
	})
}

// colorAt returns the colour of a cell; 0 outside of the shape.
func colorAt(s api.Shape, c api.Cell) uint8 {
	if !between(c.X, 0, s.W-1) || !between(c.Y, 0, s.D-1) || !between(c.Z, 0, s.H-1) {
		return 0
	}
	return s.Cells[(c.Z*s.D+c.Y)*s.W+c.X]
}

func fullCells(s api.Shape) []api.Cell {
	var l []api.Cell
	for z := range s.H {
		for y := range s.D {
			for x := range s.W {
				if c := cell(x, y, z); colorAt(s, c) != 0 {
					l = append(l, c)
				}
			}
		}
	}
	return l
}

// cellsOf returns the cells of a laid plate with the index of one.
func cellsOf(l []api.Plate, x api.Laid) []api.Cell {
	w, d := l[x.Plate].W, l[x.Plate].D
	if x.Turned {
		w, d = d, w
	}
	var cells []api.Cell
	for dx := range w {
		for dy := range d {
			cells = append(cells, cell(x.At.X+dx, x.At.Y+dy, x.At.Z))
		}
	}
	return cells
}

func wantLaid(s api.Shape, l []api.Plate, x api.Laid) bool {
	if !between(x.Plate, 0, len(l)-1) {
		return false
	}
	p, color := l[x.Plate], colorAt(s, x.At)
	if x.Turned && p.W == p.D || color == 0 || p.Color != 0 && p.Color != color {
		return false
	}
	return !slices.ContainsFunc(cellsOf(l, x), func(c api.Cell) bool { return colorAt(s, c) != color })
}

func index(s api.Shape, c api.Cell) int { return (c.Z*s.D+c.Y)*s.W + c.X }

// wantComposition tells whether a list is a composition of a valid shape with plates.
func wantComposition(s api.Shape, l []api.Plate, c []api.Laid) bool {
	covered, used := map[api.Cell]int{}, make([]int, len(l))
	for i, x := range c {
		if !wantLaid(s, l, x) || i > 0 && index(s, c[i-1].At) >= index(s, x.At) {
			return false
		}
		used[x.Plate]++
		for _, at := range cellsOf(l, x) {
			covered[at]++
		}
	}
	for _, at := range fullCells(s) {
		if covered[at] != 1 {
			return false
		}
	}
	for i, p := range l {
		if used[i] > p.N {
			return false
		}
	}
	return true
}

func wantHangs(l []api.Plate, c []api.Laid) bool {
	reached := map[int]bool{0: true}
	for range c {
		for i := range c {
			for j := range c {
				if reached[i] && (touch(l, c[i], c[j]) || touch(l, c[j], c[i])) {
					reached[j] = true
				}
			}
		}
	}
	return len(reached) == len(c)
}

// touch tells whether a cell of the second plate is just above one of the first one.
func touch(l []api.Plate, low, high api.Laid) bool {
	return slices.ContainsFunc(cellsOf(l, low), func(c api.Cell) bool {
		return slices.Contains(cellsOf(l, high), cell(c.X, c.Y, c.Z+1))
	})
}

// wantWeak goes through all pairs of cells of the lattice.
func wantWeak(s api.Shape, l []api.Plate, c []api.Laid) int {
	seam := func(a, b api.Cell) bool {
		i, j := coverer(l, c, a), coverer(l, c, b)
		return i >= 0 && j >= 0 && i != j
	}
	n := 0
	for _, a := range fullCells(s) {
		for _, b := range []api.Cell{cell(a.X+1, a.Y, a.Z), cell(a.X, a.Y+1, a.Z)} {
			if seam(a, b) && seam(cell(a.X, a.Y, a.Z+1), cell(b.X, b.Y, b.Z+1)) {
				n++
			}
		}
	}
	return n
}

// coverer returns the index of the laid plate that covers a cell, or -1.
func coverer(l []api.Plate, c []api.Laid, at api.Cell) int {
	return slices.IndexFunc(c, func(x api.Laid) bool { return slices.Contains(cellsOf(l, x), at) })
}

// wantAll returns all compositions. It covers the last cell that is still open, with each laid plate that is valid and has it.
func wantAll(s api.Shape, l []api.Plate) [][]api.Laid {
	var valid []api.Laid
	for _, at := range fullCells(s) {
		for i := range l {
			for _, x := range []api.Laid{{Plate: i, At: at}, {Plate: i, At: at, Turned: true}} {
				if wantLaid(s, l, x) {
					valid = append(valid, x)
				}
			}
		}
	}
	var found [][]api.Laid
	var choose func(c []api.Laid, open []api.Cell)
	choose = func(c []api.Laid, open []api.Cell) {
		if len(open) == 0 {
			slices.SortFunc(c, func(x, y api.Laid) int { return index(s, x.At) - index(s, y.At) })
			if wantComposition(s, l, c) {
				found = append(found, c)
			}
			return
		}
		for _, x := range valid {
			cells := cellsOf(l, x)
			rest := slices.DeleteFunc(slices.Clone(open), func(at api.Cell) bool { return slices.Contains(cells, at) })
			if slices.Contains(cells, open[len(open)-1]) && len(rest) == len(open)-len(cells) {
				choose(append(slices.Clone(c), x), rest)
			}
		}
	}
	choose(nil, fullCells(s))
	return found
}

// compareLaid is the order of compositions that have as many plates and are as weak.
func compareLaid(a, b []api.Laid) int {
	return slices.CompareFunc(a, b, func(x, y api.Laid) int {
		number := func(x api.Laid) int {
			if x.Turned {
				return 2*x.Plate + 1
			}
			return 2 * x.Plate
		}
		return number(x) - number(y)
	})
}

// compareAll is the order of all compositions.
func compareAll(s api.Shape, l []api.Plate, a, b []api.Laid) int {
	if len(a) != len(b) {
		return len(a) - len(b)
	}
	if d := wantWeak(s, l, a) - wantWeak(s, l, b); d != 0 {
		return d
	}
	return compareLaid(a, b)
}

// wantBest returns the first composition that hangs together of some.
func wantBest(s api.Shape, l []api.Plate, all [][]api.Laid) []api.Laid {
	var best []api.Laid
	for _, c := range all {
		if wantHangs(l, c) && (best == nil || compareAll(s, l, c, best) < 0) {
			best = c
		}
	}
	return best
}

// wantLeast tries all numbers of plates; 0 if there is none.
func wantLeast(s api.Shape, l []api.Plate) int {
	const none = 1000
	var least func(l []api.Plate, open int) int
	least = func(l []api.Plate, open int) int {
		if open <= 0 {
			return 0
		}
		if len(l) == 0 {
			return none
		}
		best := none
		for n := 0; n <= min(l[0].N, 16); n++ {
			best = min(best, n+least(l[1:], open-n*l[0].W*l[0].D))
		}
		return best
	}
	if n := least(l, len(fullCells(s))); n < none {
		return n
	}
	return 0
}

// randomShape returns a shape with up to so many full cells, most of which are side by side, or just above each other.
func randomShape(r *rand.Rand, most int) api.Shape {
	s := shape(1+r.Intn(4), 1+r.Intn(2), 1+r.Intn(4))
	for s.W*s.D*s.H > most && s.H > 2 {
		s.H--
	}
	for range s.W * s.D * s.H {
		color := uint8(3)
		if r.Intn(60) == 0 {
			color = 4
		}
		s.Cells = append(s.Cells, color)
	}
	for n := len(s.Cells) - r.Intn(3); len(fullCells(s)) > max(1, min(n, most)); {
		s.Cells[r.Intn(len(s.Cells))] = 0
	}
	return s
}

// randomPlates returns plates of small sizes, and now and then only of some colours. Of some there are too few.
func randomPlates(r *rand.Rand) []api.Plate {
	var l []api.Plate
	for _, side := range [][2]int{{1, 1}, {1, 2}, {1, 3}, {1, 4}, {2, 2}, {2, 3}} {
		w, d, n := side[0], side[1], r.Intn(6)
		if w*d == 1 && r.Intn(4) > 0 || r.Intn(4) == 0 {
			n += r.Intn(90)
		}
		switch r.Intn(6 + 2*w*d) {
		case 0:
			l = append(l, plate(w, d, n, 3), plate(w, d, r.Intn(9), 4))
		case 1, 2, 3, 4, 5, 6:
			l = append(l, plate(w, d, n, 0))
		}
	}
	if len(l) == 0 {
		return few(9, 9)
	}
	return l[:min(len(l), 8)]
}

// randomTower is a shape of some full layers of a row, or of a block of four, less a cell or two.
func randomTower(r *rand.Rand) api.Shape {
	sizes := [][3]int{{3, 1, 2}, {4, 1, 2}, {2, 2, 2}, {3, 1, 3}, {2, 1, 3}, {2, 1, 4}, {1, 2, 4}, {1, 4, 2}, {1, 3, 3}, {5, 1, 2}}
	size := sizes[r.Intn(len(sizes))]
	s := filled(size[0], size[1], size[2], 3)
	for range r.Intn(3) {
		s.Cells[r.Intn(len(s.Cells))] = 0
	}
	return s
}

func wantErr(t *testing.T, what any, got, want api.Errno) {
	t.Helper()
	if got != want {
		t.Errorf("%v: got error %d, want %d", what, got, want)
	}
}

// same holds slices against each other; nil and empty ones are the same.
func same[T comparable](t *testing.T, what any, got, want []T) {
	t.Helper()
	if !slices.Equal(got, want) {
		t.Errorf("%v: got %v, want %v", what, got, want)
	}
}

// isZero tells whether a result is a zero value, or an empty list.
func isZero(v any) bool {
	x := reflect.ValueOf(v)
	if x.Kind() == reflect.Slice {
		return x.Len() == 0
	}
	return x.IsZero()
}

// result is what a call returned beside its error.
type result struct {
	value any
	e     api.Errno
}

// of makes a result of what a call returns.
func of[T any](v T, e api.Errno) result { return result{v, e} }

// call is the arguments of all functions.
type call struct {
	s               api.Shape
	l               []api.Plate
	c               []api.Laid
	pixels, palette []api.Hue
	w               int
}

// ofOne calls the functions with a composition.
func (c call) ofOne() map[string]result {
	return map[string]result{
		"Check": {0, compose.Check(c.s, c.l, c.c)},
		"Hangs": of(compose.Hangs(c.s, c.l, c.c)),
		"Weak":  of(compose.Weak(c.s, c.l, c.c)),
		"Model": of(compose.Model(c.s, c.l, c.c)),
	}
}

// ofShape calls the functions with a shape and plates.
func (c call) ofShape() map[string]result {
	results := c.ofOne()
	results["Count"] = of(compose.Count(c.s, c.l))
	results["Compose"] = of(compose.Compose(c.s, c.l))
	results["Least"] = of(compose.Least(c.s, c.l))
	return results
}

func (c call) all() map[string]result {
	results := c.ofShape()
	results["CheckShape"] = result{0, compose.CheckShape(c.s)}
	results["CheckPlates"] = result{0, compose.CheckPlates(c.l)}
	results["Kinds"] = of(compose.Kinds(c.l))
	results["Paint"] = of(compose.Paint(c.pixels, c.palette, c.w))
	return results
}

// allFail checks that calls return an error, and zero values beside it.
func allFail(t *testing.T, what any, calls map[string]result, want api.Errno) {
	t.Helper()
	for name, r := range calls {
		if r.e != want || !isZero(r.value) {
			t.Errorf("%v: %s: got %v with error %d, want error %d", what, name, r.value, r.e, want)
		}
	}
}
