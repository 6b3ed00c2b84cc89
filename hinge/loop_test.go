package hinge_test

import (
	"math/rand"
	"testing"

	"studwork/api"
	"studwork/hinge"
)

func TestP5_5Examples(t *testing.T) {
	if got := gap(two(2), spot(4, 0), spot(4, 4)); got != (result{distance{0, 0, 1}, api.OK}) {
		t.Error(got)
	}
	for n := range 36 {
		got, e := hinge.Close(two(n), spot(4, 0), spot(4, 4))
		wantErr(t, n, e, api.OK)
		same(t, n, got, []int{2})
	}
	allFail(t, "one square", map[string]result{"Close": of(hinge.Close(chain(), spot(0, 0), spot(1, 0)))}, api.ErrOpen)
	got, e := hinge.Close(chain(), spot(-7, 50), spot(-7, 50))
	if e != api.OK || len(got) > 0 {
		t.Error(got, e)
	}
}

func TestP5_5Gap(t *testing.T) {
	up := indexOf(3, 4, 5)
	for i, x := range []struct {
		l    api.Linkage
		a, b api.Spot
		want distance
	}{
		{chain(), spot(3, 4), spot(1, 9), distance{2, -5, 1}},
		{chain(), spot(50, -50), spot(-50, 50), distance{100, -100, 1}},
		{two(up), spot(0, 0), spot(4, 0), distance{0, 0, 5}},
		{two(up), spot(1, 0), spot(4, 0), distance{3, 4, 5}},
		{two(up), spot(1, 0), spot(0, 0), distance{23, 4, 5}},
		{two(up), spot(5, 5), spot(3, 7), distance{0, 0, 5}},
		{chain(1, 1, 1), spot(4, 4), spot(0, 0), distance{0, 0, 1}},
	} {
		if got := gap(x.l, x.a, x.b); got != (result{x.want, api.OK}) {
			t.Error(i, got)
		}
	}
	rnd := rand.New(rand.NewSource(13))
	for range 1000 {
		l := randomLinkage(rnd, 1+rnd.Intn(4))
		a, b := randomSpot(rnd, 50), randomSpot(rnd, 50)
		x, y, d, e := hinge.Gap(l, a, b)
		want := wantGap(l, a, b)
		if e != api.OK || d != wantPose(l, len(l.Panels)-1).D || !want.is(point{quo(num(x), num(d)), quo(num(y), num(d))}) {
			t.Fatal(l, a, b, x, y, d, e, want)
		}
	}
}

func TestP5_5ErrArg(t *testing.T) {
	for _, l := range []api.Linkage{chain(), two(3), chain(0, 1, 2)} {
		for _, n := range append([]int{-51, 51}, extremes...) {
			for _, s := range []api.Spot{spot(n, 0), spot(0, n), spot(n, -n)} {
				for _, x := range [][2]api.Spot{{s, spot(0, 0)}, {spot(0, 0), s}, {s, s}} {
					allFail(t, x, map[string]result{"Gap": gap(l, x[0], x[1]), "Close": of(hinge.Close(l, x[0], x[1]))}, api.ErrArg)
				}
			}
		}
		for _, s := range []api.Spot{spot(50, -50), spot(-50, 50)} {
			if got := gap(l, s, s); got.e != api.OK {
				t.Error(got)
			}
		}
	}
}

// bars are ways of which many sums are 0 at some of the angles.
var bars = []api.Spot{spot(5, 0), spot(0, 5), spot(3, 4), spot(-4, 3), spot(10, 0), spot(25, 0), spot(0, 13), spot(12, 5), spot(17, 0), spot(8, 15), spot(1, 0), spot(7, 1), spot(0, 0), spot(24, 0), spot(0, -7), spot(6, 8)}

// randomLoop returns a linkage that may close with the places.
func randomLoop(r *rand.Rand, hinges int) (api.Linkage, api.Spot, api.Spot) {
	l := linkage([]api.Panel{triangle()})
	var starts, ends []api.Spot
	for range hinges + 1 {
		from, way := randomSpot(r, 12), bars[r.Intn(len(bars))]
		starts, ends = append(starts, from), append(ends, spot(from.X+way.X, from.Y+way.Y))
	}
	for i := range hinges {
		l.Panels = append(l.Panels, square())
		l.Hinges = append(l.Hinges, api.Hinge{A: ends[i], B: starts[i+1], Angle: r.Intn(36)})
	}
	return l, ends[hinges], starts[0]
}

func TestP5_9Close(t *testing.T) {
	rnd := rand.New(rand.NewSource(14))
	for hinges, count := range []int{60, 600, 300, 40} {
		closed := 0
		for range count {
			l, a, b := randomLoop(rnd, hinges)
			if hinges < 2 && rnd.Intn(2) == 0 {
				b = spot(a.X, a.Y)
			}
			want, ok := wantClose(l, a, b)
			got, e := hinge.Close(l, a, b)
			same(t, l, got, want)
			if !ok {
				wantErr(t, l, e, api.ErrOpen)
				continue
			}
			wantErr(t, l, e, api.OK)
			closed++
			for i, n := range got {
				l.Hinges[i].Angle = n
			}
			if got := gap(l, a, b).value.(distance); got.x != 0 || got.y != 0 || !wantGap(l, a, b).is(pointOf(spot(0, 0))) {
				t.Error(l, got)
			}
		}
		if closed < count/20 || closed > count-count/20 {
			t.Error("closed:", hinges, closed, count)
		}
	}
}

// If no angles close a loop, the gap is 0 for none of them; otherwise the first for which it is are those of Close.
func TestP5_9GapsOfAllAngles(t *testing.T) {
	rnd := rand.New(rand.NewSource(15))
	for range 15 {
		l, a, b := randomLoop(rnd, 2)
		var want []int
		for n := 36*36 - 1; n >= 0; n-- {
			l.Hinges[0].Angle, l.Hinges[1].Angle = n/36, n%36
			got := gap(l, a, b).value.(distance)
			if (got.x == 0 && got.y == 0) != wantGap(l, a, b).is(pointOf(spot(0, 0))) {
				t.Fatal(l, got)
			}
			if got.x == 0 && got.y == 0 {
				want = []int{n / 36, n % 36}
			}
		}
		got, e := hinge.Close(l, a, b)
		if (e == api.ErrOpen) != (want == nil) {
			t.Error(l, e)
		}
		same(t, l, got, want)
	}
}

// Loops that close for the first and the last angles of all, and for places as far away as there are.
func TestP5_9Ends(t *testing.T) {
	// All turn about one place, so that all angles will do.
	l := linkage(chain(3, 3, 3).Panels, joint(1, 2, 3, 4, 9), joint(3, 4, 5, 6, 9), joint(5, 6, 7, 8, 9))
	got, e := hinge.Close(l, spot(7, 8), spot(1, 2))
	wantErr(t, "all", e, api.OK)
	same(t, "all", got, []int{0, 0, 0})
	last := indexOf(24, 7, 25)
	for hinges := 1; hinges <= 3; hinges++ {
		// Around one place, all hinges together turn a bar by the last of the angles.
		l := linkage([]api.Panel{square()})
		for range hinges {
			l.Panels = append(l.Panels, square())
			l.Hinges = append(l.Hinges, joint(0, 0, 0, 0, 0))
		}
		got, e := hinge.Close(l, spot(25, 0), spot(24, 7))
		want, ok := wantClose(l, spot(25, 0), spot(24, 7))
		if e != api.OK || !ok || hinges == 1 && got[0] != last {
			t.Error(got, e)
		}
		same(t, hinges, got, want)
	}
	long := linkage(chain(3, 3, 3).Panels, joint(50, 50, -50, -50, 0), joint(50, 50, -50, -50, 0), joint(50, 50, -50, -50, 0))
	_, e = hinge.Close(long, spot(50, 50), spot(-50, -49))
	wantErr(t, "long", e, api.ErrOpen)
	got, e = hinge.Close(long, spot(50, 50), spot(-50, -50))
	wantErr(t, "long", e, api.OK)
	want, _ := wantClose(long, spot(50, 50), spot(-50, -50))
	same(t, "long", got, want)
}
