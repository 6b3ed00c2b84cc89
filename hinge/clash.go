package hinge

import (
	"slices"

	"studwork/api"
)

// inside returns for each edge of a panel the index of the first corner of another one that is strictly to the left of it, or -1 if there is none.
func (p placed) inside(other placed) []int {
	var l []int
	for _, edge := range edges(p.corners) {
		l = append(l, slices.IndexFunc(other.corners, func(c api.Spot) bool { return isLeft(edge, p.d, c, other.d) }))
	}
	return l
}

// line returns the line along an edge of a panel, as a proof for this panel as the first one.
func (p placed) line(edge int) api.Apart {
	ends := edges(p.corners)[edge]
	from, to := ends[0], ends[1]
	a, b := to.Y-from.Y, from.X-to.X
	by := divisor(a, b)
	a, b = a/by, b/by
	c := a*from.X + b*from.Y
	by = divisor(c, p.d)
	return api.Apart{Clear: true, A: a, B: b, C: c / by, E: p.d / by}
}

// apart returns why two panels clash, or do not. Panels are convex, so that a line along an edge of one of them is between them, if any line is.
func apart(first, second placed) api.Apart {
	mine, theirs := first.inside(second), second.inside(first)
	if edge := slices.Index(mine, -1); edge >= 0 {
		return first.line(edge)
	}
	if edge := slices.Index(theirs, -1); edge >= 0 {
		l := second.line(edge)
		l.A, l.B, l.C = -l.A, -l.B, -l.C
		return l
	}
	return api.Apart{Inside: append(mine, theirs...)}
}

// pair returns two different panels of a linkage where they are.
func pair(l api.Linkage, i, k int) (first, second placed, e api.Errno) {
	if e := Check(l); e != api.OK {
		return placed{}, placed{}, e
	}
	last := len(l.Panels) - 1
	if !within(i, 0, last) || !within(k, 0, last) || i == k {
		return placed{}, placed{}, api.ErrArg
	}
	all := angles().panels(l)
	return all[i], all[k], api.OK
}

// Clash returns ErrClash if two panels clash, and a proof of whether they do.
func Clash(l api.Linkage, i, k int) (api.Apart, api.Errno) {
	first, second, e := pair(l, i, k)
	if e != api.OK {
		return api.Apart{}, e
	}
	p := apart(first, second)
	if !p.Clear {
		return p, api.ErrClash
	}
	return p, api.OK
}

// clashes returns the pairs of panels that clash.
func clashes(panels []placed) [][2]int {
	var pairs [][2]int
	for i, first := range panels {
		for k := i + 1; k < len(panels); k++ {
			if !apart(first, panels[k]).Clear {
				pairs = append(pairs, [2]int{i, k})
			}
		}
	}
	return pairs
}

// Clashes returns the pairs of panels that clash.
func Clashes(l api.Linkage) ([][2]int, api.Errno) {
	if e := Check(l); e != api.OK {
		return nil, e
	}
	return clashes(angles().panels(l)), api.OK
}

// Swings returns the angles of a hinge for which no two panels clash.
func Swings(l api.Linkage, hinge int) ([]int, api.Errno) {
	if e := Check(l); e != api.OK {
		return nil, e
	}
	if !within(hinge, 0, len(l.Hinges)-1) {
		return nil, api.ErrArg
	}
	table := angles()
	l.Hinges = slices.Clone(l.Hinges)
	var free []int
	for n := range table {
		l.Hinges[hinge].Angle = n
		if len(clashes(table.panels(l))) == 0 {
			free = append(free, n)
		}
	}
	return free, api.OK
}
