package hinge_test

import (
	"math/rand"
	"slices"
	"testing"

	"studwork/api"
	"studwork/hinge"
)

// clash checks the proof of whether two panels clash, and returns whether they do.
func clash(t *testing.T, l api.Linkage, i, k int) bool {
	t.Helper()
	p, e := hinge.Clash(l, i, k)
	if e != api.OK && e != api.ErrClash || p.Clear != (e == api.OK) {
		t.Fatal(l, i, k, p, e)
	}
	if !wantRight(l, i, k, p) {
		t.Fatal("not right", l, i, k, p)
	}
	wantErr(t, p, hinge.CheckApart(l, i, k, p), api.OK)
	return e == api.ErrClash
}

func TestP5_3Examples(t *testing.T) {
	if !clash(t, two(indexOf(3, 4, 5)), 0, 1) {
		t.Error("an angle of 3, 4 and 5")
	}
	if clash(t, two(3), 0, 1) {
		t.Error("no angle")
	}
	wantErr(t, "the line", hinge.CheckApart(two(3), 0, 1, api.Apart{Clear: true, A: 1, C: 4, E: 1}), api.OK)
	got, e := hinge.Swings(two(35), 0)
	wantErr(t, "swings", e, api.OK)
	same(t, "swings", got, []int{0, 1, 3, 4, 6, 8, 10, 12, 14, 16, 18, 20, 22, 24, 26, 28, 30, 32, 34})
}

// Panels that touch in a place, along an edge or a part of it are clear; those that have an area in common clash, one in another one and both alike too.
func TestP5_3Touching(t *testing.T) {
	for i, x := range []struct {
		first, second api.Panel
		want          bool
	}{
		{square(), box(4, 4, 1, 1), false},
		{square(), box(4, 0, 4, 4), false},
		{square(), box(4, 1, 3, 1), false},
		{square(), box(-2, 4, 3, 1), false},
		{square(), box(5, 0, 4, 4), false},
		{square(), box(-9, -9, 1, 1), false},
		{square(), panel(4, 2, 6, 1, 6, 3), false},
		{square(), panel(8, 0, 8, 8, 0, 8), false},
		{square(), panel(7, 0, 7, 7, 0, 7), true},
		{square(), box(3, 3, 1, 1), true},
		{square(), box(3, 3, 9, 9), true},
		{square(), box(1, 1, 2, 2), true},
		{square(), box(-1, -1, 6, 6), true},
		{square(), box(-1, 1, 6, 2), true},
		{square(), square(), true},
		{square(), panel(0, 0, 4, 0, 2, 2), true},
		{square(), panel(0, 0, 4, 0, 0, 4), true},
		{panel(0, 0, 4, 0, 0, 4), panel(4, 0, 4, 4, 0, 4), false},
		{panel(0, 0, 4, 0, 0, 4), panel(3, 0, 4, 4, 0, 4), true},
		{panel(0, 0, 4, 0, 0, 4), panel(2, 2, 9, 2, 9, 9), false},
		// The only line between them is along an edge of the first one, or of the second one.
		{panel(0, 0, 2, 0, 1, 50), panel(2, 1, 5, 49, 2, 50), false},
		{panel(2, 1, 5, 49, 2, 50), panel(0, 0, 2, 0, 1, 50), false},
	} {
		for _, l := range []api.Linkage{
			linkage([]api.Panel{x.first, x.second}, joint(0, 0, 0, 0, 3)),
			linkage([]api.Panel{x.second, x.first}, joint(-7, 9, -7, 9, 3)),
		} {
			if clash(t, l, 0, 1) != x.want || clash(t, l, 1, 0) != x.want || wantClash(l, 0, 1) != x.want {
				t.Error(i, l)
			}
		}
	}
}

// An edge that is turned by any of the angles touches one that has been drawn so.
func TestP5_3TouchingAtAngles(t *testing.T) {
	for n, a := range wantTable {
		along := panel(0, 0, a[0], a[1], -a[1], a[0])
		for shift := -1; shift <= 1; shift++ {
			l := linkage([]api.Panel{along, box(0, -4, 4, 4)}, joint(0, 0, 0, shift, n))
			if clash(t, l, 0, 1) != (shift < 0) || clash(t, l, 1, 0) != (shift < 0) {
				t.Error(n, shift)
			}
		}
	}
}

// Panels that are a 25th apart, or have only a 25th in common.
func TestP5_3Nearly(t *testing.T) {
	up, down := indexOf(24, 7, 25), indexOf(24, -7, 25)
	for way, want := range map[int]bool{1: false, -1: true} {
		// The last panel is moved by a whole place to one side, and back by 24 / 25 of one.
		l := linkage([]api.Panel{square(), box(20, 20, 1, 1), square()}, joint(4+way, 0, 0, 0, up), joint(-way, 0, 0, 0, down))
		if got := wantCorners(l, 2)[0].x; got.Cmp(add(num(4), quo(num(way), num(25)))) != 0 {
			t.Fatal(got)
		}
		if clash(t, l, 0, 2) != want || clash(t, l, 2, 0) != want {
			t.Error(way)
		}
	}
}

// Each two panels clash, or a line is between them, whichever is the first; and the proof of the one is never one of the other.
func TestP5_6AnyPanels(t *testing.T) {
	rnd := rand.New(rand.NewSource(5))
	count := map[bool]int{}
	for range 700 {
		l := randomLinkage(rnd, 2+rnd.Intn(3))
		for i := range l.Panels {
			for k := range l.Panels {
				if i == k {
					continue
				}
				want := wantClash(l, i, k)
				if clash(t, l, i, k) != want {
					t.Fatal(l, i, k, want)
				}
				count[want]++
			}
		}
	}
	if count[true] < 1000 || count[false] < 1000 {
		t.Error(count)
	}
}

// For panels that clash no line is a proof, and for panels that are clear no corners are.
func TestP5_6NeverBoth(t *testing.T) {
	rnd := rand.New(rand.NewSource(6))
	for range 300 {
		l := randomLinkage(rnd, 2)
		clear := !clash(t, l, 0, 1)
		n, m := len(l.Panels[0]), len(l.Panels[1])
		for range 300 {
			p := api.Apart{Clear: true, A: rnd.Intn(13) - 6, B: rnd.Intn(13) - 6, C: rnd.Intn(61) - 30, E: 1 + rnd.Intn(3)}
			if clear {
				p = api.Apart{}
				for range n {
					p.Inside = append(p.Inside, rnd.Intn(m))
				}
				for range m {
					p.Inside = append(p.Inside, rnd.Intn(n))
				}
			}
			wantErr(t, p, hinge.CheckApart(l, 0, 1, p), api.ErrProof)
		}
	}
}

// The proofs of panels that are as large and as far away as there are, with the greatest D.
func TestP5_3GreatestProofs(t *testing.T) {
	rnd := rand.New(rand.NewSource(7))
	large := []api.Panel{box(-50, -50, 100, 100), panel(-50, -50, 50, -49, 50, 50), panel(-50, 50, 49, -50, 50, -50), panel(49, 50, -50, -49, 50, 49)}
	ends := []int{-50, -49, 49, 50}
	end := func() int { return ends[rnd.Intn(4)] }
	count := map[bool]int{}
	for range 400 {
		l := api.Linkage{}
		for range 4 {
			l.Panels = append(l.Panels, large[rnd.Intn(4)])
		}
		for range 3 {
			l.Hinges = append(l.Hinges, joint(end(), end(), end(), end(), 28+rnd.Intn(8)))
		}
		for _, pair := range [][2]int{{0, 3}, {3, 0}, {1, 3}, {2, 3}} {
			got := clash(t, l, pair[0], pair[1])
			if got != wantClash(l, pair[0], pair[1]) {
				t.Fatal(l, pair)
			}
			count[got]++
		}
	}
	if count[true] < 100 || count[false] < 100 {
		t.Error(count)
	}
}

func TestP5_3ErrArg(t *testing.T) {
	l := chain(3, 3)
	bad := [][2]int{{0, 0}, {1, 1}, {2, 2}, {0, 3}, {3, 0}, {3, 3}, {-1, 0}, {0, -1}, {-1, -1}}
	for _, n := range extremes {
		bad = append(bad, [2]int{0, n}, [2]int{n, 0}, [2]int{n, n})
	}
	for _, x := range bad {
		for _, p := range []api.Apart{{}, {Clear: true, A: 1, C: 4, E: 1}} {
			allFail(t, x, map[string]result{"Clash": of(hinge.Clash(l, x[0], x[1])), "CheckApart": {0, hinge.CheckApart(l, x[0], x[1], p)}}, api.ErrArg)
		}
	}
	allFail(t, "one panel", map[string]result{"Clash": of(hinge.Clash(chain(), 0, 1)), "CheckApart": {0, hinge.CheckApart(chain(), 1, 0, api.Apart{})}}, api.ErrArg)
}

func TestP5_3Clashes(t *testing.T) {
	for i, x := range []struct {
		l    api.Linkage
		want [][2]int
	}{
		{chain(), nil}, {two(3), nil}, {two(2), [][2]int{{0, 1}}}, {chain(3, 3, 3), nil},
		{linkage(chain(3, 3, 3).Panels, joint(0, 0, 0, 0, 3), joint(0, 0, 0, 0, 3), joint(0, 0, 0, 0, 3)), [][2]int{{0, 1}, {0, 2}, {0, 3}, {1, 2}, {1, 3}, {2, 3}}},
		{linkage(chain(3, 3, 3).Panels, joint(4, 0, 0, 0, 3), joint(-4, 0, 0, 0, 3), joint(4, 0, 0, 0, 3)), [][2]int{{0, 2}, {1, 3}}},
		{linkage(chain(3, 3, 3).Panels, joint(4, 0, 0, 0, 3), joint(4, 0, 0, 0, 3), joint(-8, 1, 0, 0, 3)), [][2]int{{0, 3}}},
	} {
		got, e := hinge.Clashes(x.l)
		wantErr(t, i, e, api.OK)
		same(t, i, got, x.want)
	}
	rnd := rand.New(rand.NewSource(8))
	for range 700 {
		l := randomLinkage(rnd, 1+rnd.Intn(4))
		got, e := hinge.Clashes(l)
		wantErr(t, l, e, api.OK)
		same(t, l, got, wantClashes(l))
	}
}

func TestP5_4Swings(t *testing.T) {
	// Around a hinge inside of both of them panels clash at any angle.
	got, e := hinge.Swings(linkage([]api.Panel{square(), square()}, joint(2, 2, 2, 2, 3)), 0)
	if e != api.OK || len(got) > 0 {
		t.Error(got, e)
	}
	// Far from both of them they never do; and the angle that the hinge has does not matter.
	for n := range 36 {
		got, e = hinge.Swings(linkage([]api.Panel{square(), square()}, joint(-50, -50, 50, 50, n)), 0)
		if e != api.OK || len(got) != 36 || !slices.IsSorted(got) {
			t.Error(got, e)
		}
	}
	rnd := rand.New(rand.NewSource(9))
	counts := map[bool]int{}
	for range 60 {
		l := randomLinkage(rnd, 2+rnd.Intn(3))
		at := rnd.Intn(len(l.Hinges))
		var want []int
		turned := linkage(l.Panels, slices.Clone(l.Hinges)...)
		for n := range 36 {
			turned.Hinges[at].Angle = n
			if len(wantClashes(turned)) == 0 {
				want = append(want, n)
			}
		}
		got, e := hinge.Swings(l, at)
		wantErr(t, l, e, api.OK)
		same(t, l, got, want)
		counts[len(want) > 0 && len(want) < 36]++
	}
	if counts[true] < 15 {
		t.Error(counts)
	}
}

// Two panels that clash, neither of which moves, leave no angle.
func TestP5_4SwingsOfOthers(t *testing.T) {
	l := linkage(chain(3, 3).Panels, joint(2, 2, 2, 2, 3), joint(50, 50, -50, -50, 3))
	got, e := hinge.Swings(l, 1)
	if e != api.OK || len(got) > 0 {
		t.Error(got, e)
	}
}

func TestP5_4ErrArg(t *testing.T) {
	for _, n := range append([]int{-1, 2, 3}, extremes...) {
		allFail(t, n, map[string]result{"Swings": of(hinge.Swings(chain(3, 3), n))}, api.ErrArg)
	}
	allFail(t, "one panel", map[string]result{"Swings": of(hinge.Swings(chain(), 0))}, api.ErrArg)
}

// A panel that is clear of another one is clear of it without one of its corners.
func TestP5_8Parts(t *testing.T) {
	rnd := rand.New(rand.NewSource(10))
	parts := 0
	for range 1000 {
		l := randomLinkage(rnd, 2)
		if clash(t, l, 0, 1) {
			continue
		}
		for i, p := range l.Panels {
			for c := range p {
				part := linkage(slices.Clone(l.Panels), l.Hinges...)
				part.Panels[i] = append(p[:c:c], p[c+1:]...)
				if len(p) > 3 {
					parts++
					if clash(t, part, 0, 1) || clash(t, part, 1, 0) {
						t.Fatal(l, i, c)
					}
				}
			}
		}
	}
	if parts < 1000 {
		t.Error(parts)
	}
}

func quarter(s api.Spot) api.Spot { return spot(-s.Y, s.X) }

// quarters turns all panels with their hinges by a quarter turn, each in its own plane.
func quarters(l api.Linkage) api.Linkage {
	var turned api.Linkage
	for _, p := range l.Panels {
		var q api.Panel
		for _, s := range p {
			q = append(q, quarter(s))
		}
		turned.Panels = append(turned.Panels, q)
	}
	for _, h := range l.Hinges {
		turned.Hinges = append(turned.Hinges, api.Hinge{A: quarter(h.A), B: quarter(h.B), Angle: h.Angle})
	}
	return turned
}

// backwards returns a linkage from its other end.
func backwards(l api.Linkage) api.Linkage {
	other := linkage(slices.Clone(l.Panels))
	slices.Reverse(other.Panels)
	for _, h := range l.Hinges {
		a := wantTable[h.Angle]
		other.Hinges = append(other.Hinges, api.Hinge{A: h.B, B: h.A, Angle: indexOf(a[0], -a[1], a[2])})
	}
	slices.Reverse(other.Hinges)
	return other
}

func TestP5_8QuartersAndBackwards(t *testing.T) {
	rnd := rand.New(rand.NewSource(11))
	count := 0
	for range 1000 {
		l := randomLinkage(rnd, 2+rnd.Intn(3))
		want, _ := hinge.Clashes(l)
		got, e := hinge.Clashes(quarters(l))
		wantErr(t, l, e, api.OK)
		same(t, l, got, want)
		got, e = hinge.Clashes(backwards(l))
		wantErr(t, l, e, api.OK)
		last := len(l.Panels) - 1
		for i, x := range got {
			got[i] = [2]int{last - x[1], last - x[0]}
		}
		slices.SortFunc(got, func(a, b [2]int) int { return slices.Compare(a[:], b[:]) })
		same(t, l, got, want)
		count += len(want)
	}
	if count < 500 {
		t.Error(count)
	}
}
