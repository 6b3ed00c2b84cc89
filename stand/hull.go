package stand

import (
	"slices"

	"studwork/api"
)

// hull returns the corners of the convex hull of supports, to the left around it, without those along its edges: one or two if all places are on a line. The supports are in order.
func hull(supports []api.Support) []api.Spot {
	l := places(supports)
	if len(l) < 3 {
		return l
	}
	there := bend(l)
	slices.Reverse(l)
	back := bend(l)
	return append(there[:len(there)-1], back[:len(back)-1]...)
}

// places returns the places of supports in order, each once.
func places(supports []api.Support) []api.Spot {
	var l []api.Spot
	for _, s := range supports {
		at := api.Spot{X: s.X, Y: s.Y}
		if len(l) == 0 || l[len(l)-1] != at {
			l = append(l, at)
		}
	}
	return l
}

// bend goes along places from the first to the last, turning only to the left, so that no place is to its right.
func bend(l []api.Spot) []api.Spot {
	var bent []api.Spot
	for _, at := range l {
		for n := len(bent); n > 1 && turn(bent[n-2], bent[n-1], point{at.X, at.Y, 1}) <= 0; n-- {
			bent = bent[:n-1]
		}
		bent = append(bent, at)
	}
	return bent
}

// turn returns a number above 0 if a point is to the left of the way from one place to another one, below 0 if it is to the right, and 0 if it is on their line, or they are the same.
func turn(from, to api.Spot, p point) int {
	return (to.X-from.X)*(p.y-from.Y*p.d) - (to.Y-from.Y)*(p.x-from.X*p.d)
}

// holds tells whether a point is in the convex hull of three places: not on different sides of the ways around them. If they are on one line, it has to be between them, too.
func holds(a, b, c api.Spot, p point) bool {
	if !within(p.x, min(a.X, b.X, c.X)*p.d, max(a.X, b.X, c.X)*p.d) || !within(p.y, min(a.Y, b.Y, c.Y)*p.d, max(a.Y, b.Y, c.Y)*p.d) {
		return false
	}
	first, second, third := turn(a, b, p), turn(b, c, p), turn(c, a, p)
	return min(first, second, third) >= 0 || max(first, second, third) <= 0
}

// outwards returns the directions in which something can be beyond a hull: away from each edge, and for a line or a single place also along the line, or along the axes.
func outwards(corners []api.Spot) []api.Spot {
	if len(corners) < 2 {
		return []api.Spot{{X: 1}, {X: -1}, {Y: 1}, {Y: -1}}
	}
	var l []api.Spot
	last := corners[len(corners)-1]
	for _, at := range corners {
		l = append(l, api.Spot{X: at.Y - last.Y, Y: last.X - at.X})
		if len(corners) == 2 {
			l = append(l, api.Spot{X: at.X - last.X, Y: at.Y - last.Y})
		}
		last = at
	}
	return l
}
