package hinge

import (
	"slices"

	"studwork/api"
)

// CheckPanel returns ErrPanel unless a panel is valid.
func CheckPanel(p api.Panel) api.Errno {
	if !within(len(p), 3, api.MaxCorners) || !areSpots(p...) || !isConvex(p) {
		return api.ErrPanel
	}
	return api.OK
}

// areSpots tells whether some places may be named.
func areSpots(l ...api.Spot) bool {
	for _, s := range l {
		if !within(s.X, -api.MaxSpot, api.MaxSpot) || !within(s.Y, -api.MaxSpot, api.MaxSpot) {
			return false
		}
	}
	return true
}

// isConvex tells whether for each edge all other corners are to the left of it.
func isConvex(p api.Panel) bool {
	for _, edge := range edges(p) {
		for _, c := range edge[2:] {
			if !isLeft(edge, 1, c, 1) {
				return false
			}
		}
	}
	return true
}

// edges returns for each edge all corners in their order from the one at which it begins. They are cut out of the corners twice over, each with an end of its own.
func edges(corners []api.Spot) [][]api.Spot {
	n := len(corners)
	twice := slices.Concat(corners, corners)
	var l [][]api.Spot
	for i := range n {
		l = append(l, twice[i:i+n:i+n])
	}
	return l
}

// isLeft tells whether a corner is strictly to the left of an edge. The corners of the edge are to be divided by d, the other one by its own.
func isLeft(edge []api.Spot, d int, c api.Spot, own int) bool {
	a, b := edge[0], edge[1]
	return (b.X-a.X)*(c.Y*d-a.Y*own)-(b.Y-a.Y)*(c.X*d-a.X*own) > 0
}

// Check returns ErrPanel unless a linkage is valid.
func Check(l api.Linkage) api.Errno {
	if !within(len(l.Panels), 1, api.MaxHinges+1) || len(l.Hinges) != len(l.Panels)-1 {
		return api.ErrPanel
	}
	for _, p := range l.Panels {
		if e := CheckPanel(p); e != api.OK {
			return e
		}
	}
	for _, h := range l.Hinges {
		if !areSpots(h.A, h.B) || !within(h.Angle, 0, api.Angles-1) {
			return api.ErrPanel
		}
	}
	return api.OK
}
