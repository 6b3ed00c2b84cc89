package hinge_test

import (
	"cmp"
	"math"
	"math/big"
	"math/rand"
	"reflect"
	"slices"
	"testing"

	"studwork/api"
	"studwork/hinge"
)

// The helpers here follow the words of the chapter as plainly as they can, in fractions of any size, and call no function of the program, so that tests can hold its results against theirs.

var extremes = []int{math.MinInt, math.MinInt + 1, math.MinInt32, -1e14 - 1, -1e7 - 1, -20001, -51, 51, 20001, 1e7 + 1, 1e14 + 1, math.MaxInt32, math.MaxInt - 1, math.MaxInt}

func panel(l ...int) api.Panel {
	var p api.Panel
	for i := 0; i < len(l); i += 2 {
		p = append(p, spot(l[i], l[i+1]))
	}
	return p
}

func spot(x, y int) api.Spot { return api.Spot{X: x, Y: y} }

func box(x, y, w, h int) api.Panel { return panel(x, y, x+w, y, x+w, y+h, x, y+h) }

// square is the one of the chapter's examples.
func square() api.Panel { return box(0, 0, 4, 4) }

func joint(ax, ay, bx, by, angle int) api.Hinge {
	return api.Hinge{A: spot(ax, ay), B: spot(bx, by), Angle: angle}
}

func linkage(panels []api.Panel, hinges ...api.Hinge) api.Linkage {
	return api.Linkage{Panels: panels, Hinges: hinges}
}

// two returns two squares with the hinge of the chapter's examples.
func two(angle int) api.Linkage {
	return linkage([]api.Panel{square(), square()}, joint(4, 0, 0, 0, angle))
}

// chain returns squares with hinges at opposite corners.
func chain(angles ...int) api.Linkage {
	l := linkage([]api.Panel{square()})
	for _, n := range angles {
		l.Panels = append(l.Panels, square())
		l.Hinges = append(l.Hinges, joint(4, 4, 0, 0, n))
	}
	return l
}

// wantAngles returns all angles in their order.
func wantAngles() [][3]int {
	var l [][3]int
	for _, r := range []int{25, 17, 13, 5, 1} {
		for p := -25; p <= 25; p++ {
			for q := -25; q <= 25; q++ {
				common := false
				for by := 2; by <= 25; by++ {
					common = common || p%by == 0 && q%by == 0 && r%by == 0
				}
				if p*p+q*q == r*r && !common {
					l = append(l, [3]int{p, q, r})
				}
			}
		}
	}
	slices.SortFunc(l, func(a, b [3]int) int {
		return cmp.Or(a[2]-b[2], a[0]-b[0], a[1]-b[1])
	})
	return l
}

var wantTable = wantAngles()

// indexOf returns the index of the angle (p, q, r).
func indexOf(p, q, r int) int { return slices.Index(wantTable, [3]int{p, q, r}) }

func num(n int) *big.Rat { return big.NewRat(int64(n), 1) }

func add(a, b *big.Rat) *big.Rat { return new(big.Rat).Add(a, b) }

func sub(a, b *big.Rat) *big.Rat { return new(big.Rat).Sub(a, b) }

func mul(a, b *big.Rat) *big.Rat { return new(big.Rat).Mul(a, b) }

func quo(a, b *big.Rat) *big.Rat { return new(big.Rat).Quo(a, b) }

// point is a place in the plane of the panel 0.
type point struct{ x, y *big.Rat }

func pointOf(s api.Spot) point { return point{num(s.X), num(s.Y)} }

func (p point) plus(o point) point { return point{add(p.x, o.x), add(p.y, o.y)} }

func (p point) minus(o point) point { return point{sub(p.x, o.x), sub(p.y, o.y)} }

func (p point) is(o point) bool { return p.x.Cmp(o.x) == 0 && p.y.Cmp(o.y) == 0 }

func (p point) turned(a [3]int) point {
	c, s := quo(num(a[0]), num(a[2])), quo(num(a[1]), num(a[2]))
	return point{sub(mul(c, p.x), mul(s, p.y)), add(mul(s, p.x), mul(c, p.y))}
}

func cross(a, b point) *big.Rat { return sub(mul(a.x, b.y), mul(a.y, b.x)) }

// wantPoint returns where a place of a panel is: it is turned about each hinge between it and the panel 0.
func wantPoint(l api.Linkage, panel int, s api.Spot) point {
	p := pointOf(s)
	for k := panel - 1; k >= 0; k-- {
		h := l.Hinges[k]
		p = p.minus(pointOf(h.B)).turned(wantTable[h.Angle]).plus(pointOf(h.A))
	}
	return p
}

func wantCorners(l api.Linkage, panel int) []point {
	var all []point
	for _, s := range l.Panels[panel] {
		all = append(all, wantPoint(l, panel, s))
	}
	return all
}

// wantPose returns the pose of a panel from where two of its places are.
func wantPose(l api.Linkage, panel int) api.Pose {
	at := wantPoint(l, panel, spot(0, 0))
	way := wantPoint(l, panel, spot(1, 0)).minus(at)
	d := big.NewInt(1)
	for _, x := range []*big.Rat{at.x, at.y, way.x, way.y} {
		common := new(big.Int).GCD(nil, nil, d, x.Denom())
		d.Mul(d, new(big.Int).Quo(x.Denom(), common))
	}
	times := func(x *big.Rat) int { return int(mul(x, new(big.Rat).SetInt(d)).Num().Int64()) }
	return api.Pose{P: times(way.x), Q: times(way.y), X: times(at.x), Y: times(at.y), D: int(d.Int64())}
}

// cut returns the part of a shape that is to the left of a way, or on it.
func cut(shape []point, from, to point) []point {
	side := func(p point) *big.Rat { return cross(to.minus(from), p.minus(from)) }
	var part []point
	for i, p := range shape {
		next := shape[(i+1)%len(shape)]
		a, b := side(p), side(next)
		if a.Sign() >= 0 {
			part = append(part, p)
		}
		if a.Sign()*b.Sign() < 0 {
			t := quo(a, sub(a, b))
			way := next.minus(p)
			part = append(part, p.plus(point{mul(t, way.x), mul(t, way.y)}))
		}
	}
	return part
}

// wantClash tells whether what two panels have in common has an area.
func wantClash(l api.Linkage, i, k int) bool {
	shape, other := wantCorners(l, i), wantCorners(l, k)
	for n, from := range other {
		shape = cut(shape, from, other[(n+1)%len(other)])
	}
	area := new(big.Rat)
	for n, p := range shape {
		area = add(area, cross(p, shape[(n+1)%len(shape)]))
	}
	return area.Sign() > 0
}

func wantClashes(l api.Linkage) [][2]int {
	var pairs [][2]int
	for i := range l.Panels {
		for k := range l.Panels {
			if i < k && wantClash(l, i, k) {
				pairs = append(pairs, [2]int{i, k})
			}
		}
	}
	return pairs
}

// wantRight tells whether a proof is right for two panels.
func wantRight(l api.Linkage, i, k int, p api.Apart) bool {
	first, second := wantCorners(l, i), wantCorners(l, k)
	if !p.Clear {
		if p.A != 0 || p.B != 0 || p.C != 0 || p.E != 0 || len(p.Inside) != len(first)+len(second) {
			return false
		}
		return wantLeft(first, second, p.Inside[:len(first)]) && wantLeft(second, first, p.Inside[len(first):])
	}
	if len(p.Inside) > 0 || p.A == 0 && p.B == 0 || p.E < 1 || p.E > 20000 {
		return false
	}
	if p.A < -1e7 || p.A > 1e7 || p.B < -1e7 || p.B > 1e7 || p.C < -1e14 || p.C > 1e14 {
		return false
	}
	over := func(q point) int {
		return mul(num(p.E), add(mul(num(p.A), q.x), mul(num(p.B), q.y))).Cmp(num(p.C))
	}
	return !slices.ContainsFunc(first, func(q point) bool { return over(q) > 0 }) && !slices.ContainsFunc(second, func(q point) bool { return over(q) < 0 })
}

func wantLeft(shape, other []point, l []int) bool {
	for i, n := range l {
		from, to := shape[i], shape[(i+1)%len(shape)]
		if n < 0 || n >= len(other) || cross(to.minus(from), other[n].minus(from)).Sign() <= 0 {
			return false
		}
	}
	return true
}

// wantPanel tells whether a panel is valid.
func wantPanel(p api.Panel) bool {
	if len(p) < 3 || len(p) > 8 {
		return false
	}
	for i, a := range p {
		if a.X < -50 || a.X > 50 || a.Y < -50 || a.Y > 50 {
			return false
		}
		next := (i + 1) % len(p)
		for k, c := range p {
			way := pointOf(p[next]).minus(pointOf(a))
			if k != i && k != next && cross(way, pointOf(c).minus(pointOf(a))).Sign() <= 0 {
				return false
			}
		}
	}
	return true
}

// wantGap returns how far a place of the last panel is from one of the panel 0.
func wantGap(l api.Linkage, a, b api.Spot) point {
	return wantPoint(l, len(l.Panels)-1, a).minus(pointOf(b))
}

// wantClose goes through all angles, from the last hinge to the first. Places are counted in parts of 1, one after another 5525 times as small: each R divides that number.
func wantClose(l api.Linkage, a, b api.Spot) ([]int, bool) {
	const parts = 5 * 5 * 13 * 17
	n := len(l.Hinges)
	count := 1
	for range n {
		count *= 36
	}
	for set := range count {
		var angles []int
		for i, rest := 0, set; i < n; i, rest = i+1, rest/36 {
			angles = append(angles, rest%36)
		}
		slices.Reverse(angles)
		x, y, size := a.X, a.Y, 1
		for i := n - 1; i >= 0; i-- {
			h, t := l.Hinges[i], wantTable[angles[i]]
			x, y = x-h.B.X*size, y-h.B.Y*size
			x, y = parts/t[2]*(t[0]*x-t[1]*y), parts/t[2]*(t[1]*x+t[0]*y)
			size *= parts
			x, y = x+h.A.X*size, y+h.A.Y*size
		}
		if x == b.X*size && y == b.Y*size {
			return angles, true
		}
	}
	return nil, false
}

// around returns the corners around some places, to the left, without those on edges.
func around(l []api.Spot) api.Panel {
	turn := func(a, b, c api.Spot) int { return (b.X-a.X)*(c.Y-a.Y) - (b.Y-a.Y)*(c.X-a.X) }
	slices.SortFunc(l, func(a, b api.Spot) int { return cmp.Or(a.X-b.X, a.Y-b.Y) })
	var p api.Panel
	for range 2 {
		least := len(p) + 1
		for _, s := range l {
			for len(p) > least && turn(p[len(p)-2], p[len(p)-1], s) <= 0 {
				p = p[:len(p)-1]
			}
			p = append(p, s)
		}
		p = p[:len(p)-1]
		slices.Reverse(l)
	}
	return p
}

func randomSpot(r *rand.Rand, reach int) api.Spot {
	return spot(r.Intn(2*reach+1)-reach, r.Intn(2*reach+1)-reach)
}

func randomPanel(r *rand.Rand, reach int) api.Panel {
	for {
		var l []api.Spot
		for range 3 + r.Intn(12) {
			l = append(l, randomSpot(r, reach))
		}
		if p := around(l); len(p) >= 3 && len(p) <= 8 {
			at := r.Intn(len(p))
			return slices.Concat(p[at:], p[:at])
		}
	}
}

// randomLinkage often has hinges at corners and angles of quarters, so that panels touch.
func randomLinkage(r *rand.Rand, panels int) api.Linkage {
	var l api.Linkage
	reach := []int{2, 3, 8, 50}[r.Intn(4)]
	plain := r.Intn(2) == 0
	for range panels {
		p := randomPanel(r, reach)
		if r.Intn(3) == 0 {
			p = box(-r.Intn(reach), -r.Intn(reach), 1+r.Intn(reach), 1+r.Intn(reach))
		}
		l.Panels = append(l.Panels, p)
	}
	for i := range panels - 1 {
		h := api.Hinge{A: randomSpot(r, reach), B: randomSpot(r, reach), Angle: r.Intn(36)}
		if r.Intn(3) > 0 {
			h.A = l.Panels[i][r.Intn(len(l.Panels[i]))]
			h.B = l.Panels[i+1][r.Intn(len(l.Panels[i+1]))]
		}
		if plain {
			h.Angle = r.Intn(4)
		}
		l.Hinges = append(l.Hinges, h)
	}
	return l
}

func wantErr(t *testing.T, what any, got, want api.Errno) {
	t.Helper()
	if got != want {
		t.Errorf("%v: got error %d, want %d", what, got, want)
	}
}

func same[T comparable](t *testing.T, what any, got, want []T) {
	t.Helper()
	if !slices.Equal(got, want) {
		t.Errorf("%v: got %v, want %v", what, got, want)
	}
}

func isZero(v any) bool {
	x := reflect.ValueOf(v)
	if x.Kind() == reflect.Slice {
		return x.Len() == 0
	}
	return x.IsZero()
}

// result is a value that a function returns, and its error.
type result struct {
	value any
	e     api.Errno
}

func of[T any](v T, e api.Errno) result { return result{v, e} }

// turn is what Angle returns.
type turn struct{ p, q, r int }

func angle(n int) result {
	p, q, r, e := hinge.Angle(n)
	return result{turn{p, q, r}, e}
}

// divided is what Corners returns.
type divided struct {
	corners []api.Spot
	d       int
}

func corners(l api.Linkage, panel int) result {
	c, d, e := hinge.Corners(l, panel)
	return result{divided{c, d}, e}
}

// distance is what Gap returns.
type distance struct{ x, y, d int }

func gap(l api.Linkage, a, b api.Spot) result {
	x, y, d, e := hinge.Gap(l, a, b)
	return result{distance{x, y, d}, e}
}

func withLinkage(l api.Linkage, i, k int, a, b api.Spot, p api.Apart) map[string]result {
	return map[string]result{
		"Check":      {0, hinge.Check(l)},
		"Poses":      of(hinge.Poses(l)),
		"Corners":    corners(l, i),
		"Clash":      of(hinge.Clash(l, i, k)),
		"CheckApart": {0, hinge.CheckApart(l, i, k, p)},
		"Clashes":    of(hinge.Clashes(l)),
		"Swings":     of(hinge.Swings(l, k)),
		"Gap":        gap(l, a, b),
		"Close":      of(hinge.Close(l, a, b)),
	}
}

func allFail(t *testing.T, what any, calls map[string]result, want api.Errno) {
	t.Helper()
	for name, r := range calls {
		if r.e != want || !isZero(r.value) {
			t.Errorf("%v: %s: got %v with error %d, want error %d", what, name, r.value, r.e, want)
		}
	}
}
