package compose

import "studwork/api"

// piece is a laid plate, with the cells that it covers, and the full cells just above and below these.
type piece struct {
	api.Laid
	covers, touches set
}

// board is a shape whose full cells have numbers, in their order, and all pieces that are valid in it: by what is laid, and for each full cell those that begin there, in the order in which they are compared.
type board struct {
	api.Shape
	plates  []api.Plate
	full    []api.Cell
	numbers map[api.Cell]int
	pieces  map[api.Laid]piece
	begin   [][]piece
	walls   []wall
}

// wall is the numbers of two full cells side by side, and of the two just above these.
type wall struct{ left, right, leftAbove, rightAbove int }

func checkBoth(s api.Shape, l []api.Plate) api.Errno {
	if e := CheckShape(s); e != api.OK {
		return e
	}
	return CheckPlates(l)
}

func boardOf(s api.Shape, l []api.Plate) (board, api.Errno) {
	if e := checkBoth(s, l); e != api.OK {
		return board{}, e
	}
	b := board{Shape: s, plates: l, numbers: map[api.Cell]int{}, pieces: map[api.Laid]piece{}}
	for i, color := range b.Cells {
		if color != 0 {
			at := api.Cell{X: i % b.W, Y: i / b.W % b.D, Z: i / b.W / b.D}
			b.numbers[at] = len(b.full)
			b.full = append(b.full, at)
		}
	}
	b.begin = make([][]piece, len(b.full))
	for n := range b.full {
		b.cutPieces(n)
		b.findWalls(n)
	}
	return b, api.OK
}

// whole returns all full cells.
func (b board) whole() set { return firsts(len(b.full)) }

func (b board) color(at api.Cell) uint8 { return b.Cells[(at.Z*b.D+at.Y)*b.W+at.X] }

// cutPieces notes which plates can be laid with their least corner at a full cell.
func (b *board) cutPieces(n int) {
	for i := range b.plates {
		for _, turned := range [...]bool{false, true} {
			x := api.Laid{Plate: i, At: b.full[n], Turned: turned}
			if covers, ok := b.fits(x); ok {
				p := piece{x, covers, b.touching(covers)}
				b.pieces[x] = p
				b.begin[n] = append(b.begin[n], p)
			}
		}
	}
}

// fits returns what a plate covers at a full cell, and whether it is valid there.
func (b *board) fits(x api.Laid) (set, bool) {
	p, color := b.plates[x.Plate], b.color(x.At)
	if x.Turned && p.W == p.D || p.Color != 0 && p.Color != color {
		return 0, false
	}
	var covers set
	w, d := sides(p, x.Turned)
	for i := range w * d {
		at := api.Cell{X: x.At.X + i%w, Y: x.At.Y + i/w, Z: x.At.Z}
		n, ok := b.numbers[at]
		if !ok || b.color(at) != color {
			return 0, false
		}
		covers = covers.with(n)
	}
	return covers, true
}

// touching returns the full cells just above and below some others.
func (b *board) touching(covers set) set {
	var touched set
	for n := range covers.all() {
		for _, z := range [...]int{-1, 1} {
			at := b.full[n]
			at.Z += z
			if other, ok := b.numbers[at]; ok {
				touched = touched.with(other)
			}
		}
	}
	return touched
}

// findWalls notes the walls with a full cell as the lower one on their left, along x and along y.
func (b *board) findWalls(left int) {
	for _, step := range [...]api.Cell{{X: 1}, {Y: 1}} {
		at := b.full[left]
		right, ok := b.numbers[api.Cell{X: at.X + step.X, Y: at.Y + step.Y, Z: at.Z}]
		leftAbove, okLeft := b.numbers[api.Cell{X: at.X, Y: at.Y, Z: at.Z + 1}]
		rightAbove, okRight := b.numbers[api.Cell{X: at.X + step.X, Y: at.Y + step.Y, Z: at.Z + 1}]
		if ok && okLeft && okRight {
			b.walls = append(b.walls, wall{left, right, leftAbove, rightAbove})
		}
	}
}
