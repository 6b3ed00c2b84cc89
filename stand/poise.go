package stand

import (
	"slices"

	"studwork/api"
)

// Limits of a line over which something tips.
const (
	maxSlope = 10000
	maxLine  = 1 << 40
)

// poise returns why a point is balanced on supports, or tips.
func poise(supports []api.Support, p point) api.Poise {
	corners := hull(supports)
	if line, ok := tip(corners, p); ok {
		return line
	}
	return api.Poise{Balanced: true, At: carriers(supports, corners, p)}
}

// tip returns a line with all corners on one side, and the point on the other one, if there is one.
func tip(corners []api.Spot, p point) (api.Poise, bool) {
	for _, out := range outwards(corners) {
		far := -api.MaxLoad // less than any place has, so that everything tips where there are no corners
		for _, c := range corners {
			far = max(far, out.X*c.X+out.Y*c.Y)
		}
		if out.X*p.x+out.Y*p.y > far*p.d {
			return api.Poise{A: out.X, B: out.Y, C: far}, true
		}
	}
	return api.Poise{}, false
}

// carriers returns three supports around a point that does not tip: the triangles at the first corner cover the hull.
func carriers(supports []api.Support, corners []api.Spot, p point) [3]int {
	for i, second := range corners {
		third := corners[min(i+1, len(corners)-1)]
		if holds(corners[0], second, third, p) {
			at := [3]int{find(supports, corners[0]), find(supports, second), find(supports, third)}
			slices.Sort(at[:])
			return at
		}
	}
	return [3]int{}
}

// find returns the first support at a place.
func find(supports []api.Support, at api.Spot) int {
	return slices.IndexFunc(supports, func(s api.Support) bool { return spot(s) == at })
}

func spot(s api.Support) api.Spot { return api.Spot{X: s.X, Y: s.Y} }

// Balance returns why a part is balanced, or tips.
func Balance(l []api.Kind, m api.Model, r api.Rest, part []int) (api.Poise, api.Errno) {
	s, e := scalesOf(l, m, r)
	if e != api.OK {
		return api.Poise{}, e
	}
	if !s.isPart(part) {
		return api.Poise{}, api.ErrArg
	}
	return s.weigh(part), api.OK
}

func (s scales) weigh(part []int) api.Poise {
	supports := s.supports(part)
	return poise(supports, s.point(part, supports))
}

// CheckPoise returns ErrProof unless a poise is right.
func CheckPoise(l []api.Kind, m api.Model, r api.Rest, part []int, p api.Poise) api.Errno {
	s, e := scalesOf(l, m, r)
	if e != api.OK {
		return e
	}
	if !s.isPart(part) {
		return api.ErrArg
	}
	supports := s.supports(part)
	at := s.point(part, supports)
	if p.Balanced && isCarried(supports, at, p) || !p.Balanced && tips(supports, at, p) {
		return api.OK
	}
	return api.ErrProof
}

// isCarried tells whether three supports carry a point.
func isCarried(supports []api.Support, at point, p api.Poise) bool {
	if p.A != 0 || p.B != 0 || p.C != 0 || !slices.IsSorted(p.At[:]) || !within(p.At[0], 0, p.At[2]) || p.At[2] >= len(supports) {
		return false
	}
	return holds(spot(supports[p.At[0]]), spot(supports[p.At[1]]), spot(supports[p.At[2]]), at)
}

// tips tells whether a point is beyond a line, and no support is.
func tips(supports []api.Support, at point, p api.Poise) bool {
	if p.At != [3]int{} || p.A == 0 && p.B == 0 {
		return false
	}
	if !within(p.A, -maxSlope, maxSlope) || !within(p.B, -maxSlope, maxSlope) || !within(p.C, -maxLine, maxLine) {
		return false
	}
	beyond := func(s api.Support) bool { return p.A*s.X+p.B*s.Y > p.C }
	return !slices.ContainsFunc(supports, beyond) && p.A*at.x+p.B*at.y > p.C*at.d
}

// Topples returns the least plane above which a model is not balanced.
func Topples(l []api.Kind, m api.Model, r api.Rest) (int, bool, api.Errno) {
	s, e := scalesOf(l, m, r)
	if e != api.OK {
		return 0, false, e
	}
	z, ok := s.topples()
	return z, ok, api.OK
}

func (s scales) topples() (int, bool) {
	top := s.table
	for i := range s.bricks {
		top = max(top, s.highest(i))
	}
	balanced := 0
planes:
	for z := s.table; z <= top; z++ {
		part := s.from(z)
		switch len(part) {
		case 0:
			break planes // and there is nothing on the planes above, either
		case balanced:
			continue planes // a part has all of the next one, so that this is the same one
		}
		if !s.weigh(part).Balanced {
			return z, true
		}
		balanced = len(part)
	}
	return 0, false
}

// from returns the bricks that have no cell below a plane.
func (s scales) from(z int) []int {
	var part []int
	for i := range s.bricks {
		if s.lowest(i) >= z {
			part = append(part, i)
		}
	}
	return part
}
