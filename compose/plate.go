package compose

import (
	"slices"

	"studwork/api"
)

// Numbers of the lattice: the knobs of plates, and the turn of those that are turned.
const (
	upwards   uint8 = 4
	downwards uint8 = 5
	stud      uint8 = 1
	tube      uint8 = 2
	quarter   uint8 = 1
)

// CheckPlates returns ErrPlate unless a list is plates (P7.1).
func CheckPlates(l []api.Plate) api.Errno {
	if !within(len(l), 1, api.MaxPlates) {
		return api.ErrPlate
	}
	for i, p := range l {
		if !isPlate(p) || i > 0 && !follows(l[i-1], p) {
			return api.ErrPlate
		}
	}
	return api.OK
}

func isPlate(p api.Plate) bool {
	return within(p.D, 1, api.MaxSide) && within(p.W, 1, p.D) && within(p.N, 0, api.MaxOwn) && p.Color <= api.MaxColor
}

// follows tells whether a plate may stand after another one. If they have the same size, the first one is the one that could be of any colour.
func follows(first, next api.Plate) bool {
	d := compareBy(first, next, width, depth)
	return d < 0 || d == 0 && 0 < first.Color && first.Color < next.Color
}

func width(p api.Plate) int { return p.W }

func depth(p api.Plate) int { return p.D }

func size(p api.Plate) int { return p.W * p.D }

// sides returns how far a plate goes along x, and along y.
func sides(p api.Plate, turned bool) (x, y int) {
	if turned {
		return p.D, p.W
	}
	return p.W, p.D
}

// Least returns how many plates are needed at least (P7.3).
func Least(s api.Shape, l []api.Plate) (int, api.Errno) {
	if e := checkBoth(s, l); e != api.OK {
		return 0, e
	}
	greatest := slices.Clone(l)
	slices.SortFunc(greatest, func(a, b api.Plate) int { return compareBy(b, a, size) })
	n, open := 0, full(s)
	for _, p := range greatest {
		for range p.N {
			n++
			if open -= size(p); open <= 0 {
				return n, api.OK
			}
		}
	}
	return 0, api.ErrNone
}

// Kinds returns a kind for each plate (P7.5).
func Kinds(l []api.Plate) ([]api.Kind, api.Errno) {
	if e := CheckPlates(l); e != api.OK {
		return nil, e
	}
	var kinds []api.Kind
	for _, p := range l {
		if size(p) > api.MaxCells {
			return nil, api.ErrArg
		}
		kinds = append(kinds, kindOf(p))
	}
	return kinds, api.OK
}

func kindOf(p api.Plate) api.Kind {
	k := api.Kind{Weight: size(p)}
	for y := range p.D {
		for x := range p.W {
			at := api.Cell{X: x, Y: y}
			k.Cells = append(k.Cells, at)
			k.Knobs = append(k.Knobs, api.Knob{At: at, Dir: upwards, Sort: stud}, api.Knob{At: at, Dir: downwards, Sort: tube})
		}
	}
	return k
}
