package hinge_test

import (
	"math/big"
	"math/rand"
	"testing"

	"studwork/api"
	"studwork/hinge"
)

func poses(t *testing.T, l api.Linkage) []api.Pose {
	t.Helper()
	got, e := hinge.Poses(l)
	wantErr(t, l, e, api.OK)
	if len(got) != len(l.Panels) {
		t.Fatal(l, got)
	}
	return got
}

func TestP5_2Poses(t *testing.T) {
	same(t, "the example", poses(t, two(indexOf(3, 4, 5))), []api.Pose{{P: 1, D: 1}, {P: 3, Q: 4, X: 20, D: 5}})
	same(t, "one panel", poses(t, chain()), []api.Pose{{P: 1, D: 1}})
	same(t, "quarters", poses(t, chain(2, 0, 1)), []api.Pose{{P: 1, D: 1}, {Q: 1, X: 4, Y: 4, D: 1}, {Q: -1, X: 0, Y: 8, D: 1}, {P: -1, X: 4, Y: 4, D: 1}})
	up, down := indexOf(3, 4, 5), indexOf(3, -4, 5)
	// A turn and its opposite: 5 and 25 have D 1 again where the places fit.
	same(t, "back", poses(t, linkage([]api.Panel{square(), square(), square()}, joint(4, 0, 0, 0, up), joint(5, 5, 0, 0, down))), []api.Pose{{P: 1, D: 1}, {P: 3, Q: 4, X: 20, D: 5}, {P: 1, X: 3, Y: 7, D: 1}})
	same(t, "back, between places", poses(t, linkage([]api.Panel{square(), square(), square()}, joint(4, 0, 0, 0, up), joint(1, 0, 0, 0, down))), []api.Pose{{P: 1, D: 1}, {P: 3, Q: 4, X: 20, D: 5}, {P: 5, X: 23, Y: 4, D: 5}})
}

// The last panel is turned by nothing, and moved by a fraction along one axis, so that this fraction alone makes D greater than 1.
func TestP5_2FractionsOfPlaces(t *testing.T) {
	once, back := indexOf(3, 4, 5), indexOf(-7, -24, 25)
	for _, x := range []struct {
		a    api.Spot
		want api.Pose
	}{{spot(1, 0), api.Pose{P: 5, X: 6, D: 5}}, {spot(0, 1), api.Pose{P: 5, Y: 6, D: 5}}, {spot(5, 0), api.Pose{P: 1, X: 6, D: 1}}} {
		l := chain(once, back, once)
		l.Hinges[0].A, l.Hinges[1].A, l.Hinges[2].A = spot(0, 0), x.a, x.a
		if got := poses(t, l)[3]; got != x.want || got != wantPose(l, 3) {
			t.Error(got)
		}
	}
}

// The greatest D, and places as far out as there are.
func TestP5_2GreatestPoses(t *testing.T) {
	n := indexOf(24, 7, 25)
	l := chain(n, n, n)
	for i := range l.Hinges {
		l.Hinges[i].A, l.Hinges[i].B = spot(50, 50), spot(-50, -50)
	}
	got := poses(t, l)
	for i, at := range got {
		if want := wantPose(l, i); at != want {
			t.Error(at, want)
		}
	}
	if got[3].D != 25*25*25 {
		t.Error(got)
	}
}

func TestP5_2PosesOfAny(t *testing.T) {
	rnd := rand.New(rand.NewSource(2))
	lower := 0
	for range 2000 {
		l := randomLinkage(rnd, 1+rnd.Intn(4))
		d := 1
		for i, at := range poses(t, l) {
			if want := wantPose(l, i); at != want {
				t.Fatal(l, i, at, want)
			}
			if i > 0 {
				d *= wantTable[l.Hinges[i-1].Angle][2]
			}
			if at.D < d {
				lower++
			}
		}
	}
	if lower < 20 {
		t.Error("too few poses that are not in lowest terms at once:", lower)
	}
}

func TestP5_2Corners(t *testing.T) {
	got, d, e := hinge.Corners(two(indexOf(3, 4, 5)), 1)
	wantErr(t, "the example", e, api.OK)
	same(t, "the example", got, []api.Spot{spot(20, 0), spot(32, 16), spot(16, 28), spot(4, 12)})
	if d != 5 {
		t.Error(d)
	}
	rnd := rand.New(rand.NewSource(3))
	for range 500 {
		l := randomLinkage(rnd, 1+rnd.Intn(4))
		for i := range l.Panels {
			got, d, e := hinge.Corners(l, i)
			want := wantCorners(l, i)
			if e != api.OK || len(got) != len(want) || d != wantPose(l, i).D {
				t.Fatal(l, i, got, d, e)
			}
			for n, s := range got {
				if p := (point{quo(num(s.X), num(d)), quo(num(s.Y), num(d))}); !p.is(want[n]) {
					t.Fatal(l, i, n, s, d, want[n])
				}
			}
		}
	}
}

func TestP5_2ErrArg(t *testing.T) {
	for _, n := range append([]int{-1, 3, 4}, extremes...) {
		allFail(t, n, map[string]result{"Corners": corners(chain(3, 4), n)}, api.ErrArg)
	}
	allFail(t, "one panel", map[string]result{"Corners": corners(chain(), 1)}, api.ErrArg)
}

// Distances between the corners of a panel are those in its own plane, and hinges hold.
func TestP5_7PanelsStayAsTheyAre(t *testing.T) {
	rnd := rand.New(rand.NewSource(4))
	for range 500 {
		l := randomLinkage(rnd, 4)
		at := poses(t, l)
		for i, p := range l.Panels {
			got, d, _ := hinge.Corners(l, i)
			for n := range p {
				for m := range p {
					x, y := got[n].X-got[m].X, got[n].Y-got[m].Y
					own := spot(p[n].X-p[m].X, p[n].Y-p[m].Y)
					if x*x+y*y != (own.X*own.X+own.Y*own.Y)*d*d {
						t.Fatal(l, i, got, d)
					}
				}
			}
		}
		for i, h := range l.Hinges {
			if !put(at[i], h.A).is(put(at[i+1], h.B)) {
				t.Fatal(l, i, at)
			}
		}
		for _, p := range at {
			common := new(big.Int)
			for _, n := range []int{p.P, p.Q, p.X, p.Y, p.D} {
				common.GCD(nil, nil, common, big.NewInt(int64(max(n, -n))))
			}
			if p.D < 1 || common.Int64() != 1 || p.P*p.P+p.Q*p.Q != p.D*p.D {
				t.Fatal(l, p)
			}
		}
	}
}

// put returns where a pose puts a place.
func put(p api.Pose, s api.Spot) point {
	d := num(p.D)
	return point{quo(num(p.P*s.X-p.Q*s.Y+p.X), d), quo(num(p.Q*s.X+p.P*s.Y+p.Y), d)}
}
