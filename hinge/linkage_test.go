package hinge_test

import (
	"math/rand"
	"slices"
	"testing"

	"studwork/api"
	"studwork/hinge"
)

// Panels of eight and of nine corners, and the least triangle.
func octagon() api.Panel { return panel(1, 0, 2, 0, 3, 1, 3, 2, 2, 3, 1, 3, 0, 2, 0, 1) }

func nonagon() api.Panel { return panel(3, 0, 5, 0, 7, 1, 8, 3, 8, 5, 5, 8, 3, 8, 0, 5, 0, 3) }

func triangle() api.Panel { return panel(0, 0, 1, 0, 0, 1) }

func TestP5_1ValidPanels(t *testing.T) {
	for i, p := range []api.Panel{
		square(), triangle(), octagon(), nonagon()[1:], box(-50, -50, 100, 100),
		panel(-50, -50, 50, -50, 50, 50), panel(-50, -50, 50, 49, 49, 49), panel(0, 0, 50, 49, 49, 49), // narrow ones
	} {
		for at := range p {
			wantErr(t, i, hinge.CheckPanel(slices.Concat(p[at:], p[:at])), api.OK)
		}
	}
}

func TestP5_1ErrPanelOfPanels(t *testing.T) {
	opposite := square()
	slices.Reverse(opposite)
	bad := []api.Panel{
		nil, {}, panel(0, 0), panel(0, 0, 1, 0), nonagon(), make(api.Panel, 3), make(api.Panel, 9),
		opposite, panel(0, 0, 0, 1, 1, 0),
		panel(0, 0, 1, 0, 2, 0), panel(0, 0, 4, 0, 4, 4, 2, 4, 0, 4), panel(0, 0, 2, 2, 0, 4, 1, 1), // on a line
		panel(0, 0, 4, 0, 4, 0, 4, 4), panel(0, 0, 4, 0, 4, 4, 0, 0), panel(0, 0, 4, 0, 0, 4, 4, 0), // a corner twice
		panel(0, 0, 4, 0, 1, 1, 0, 4), panel(0, 0, 4, 0, 4, 4, 2, 1), // not convex
		panel(0, 0, 4, 4, 4, 0, 0, 4),             // crossed
		panel(0, 6, -4, -5, 6, 2, -6, 2, 4, -5),   // a star: each turn is to the left
		panel(0, 0, 4, 0, 0, 4, 0, 0, 4, 0, 0, 4), // twice around
		panel(0, 0, 51, 0, 0, 1), panel(-51, 0, 0, 0, 0, 1), panel(0, 0, 1, 0, 0, 51), panel(0, -51, 1, 0, 0, 1),
	}
	for _, n := range extremes {
		for i := range 4 {
			for _, s := range []api.Spot{spot(n, 0), spot(0, n), spot(n, n)} {
				p := square()
				p[i] = s
				bad = append(bad, p)
			}
		}
	}
	for _, p := range bad {
		wantErr(t, p, hinge.CheckPanel(p), api.ErrPanel)
		for i := range 4 {
			l := chain(3, 3, 3)
			l.Panels[i] = p
			allFail(t, p, withLinkage(l, 0, 1, spot(0, 0), spot(0, 0), api.Apart{}), api.ErrPanel)
		}
	}
}

// Corners around which one goes to the left more than once, or not at all, are told from valid ones.
func TestP5_1AnyPanels(t *testing.T) {
	rnd := rand.New(rand.NewSource(1))
	valid := map[int]int{}
	for range 20000 {
		p := randomPanel(rnd, []int{1, 2, 4, 50}[rnd.Intn(4)])
		switch rnd.Intn(4) {
		case 0:
			p[rnd.Intn(len(p))] = randomSpot(rnd, 4)
		case 1:
			i, k := rnd.Intn(len(p)), rnd.Intn(len(p))
			p[i], p[k] = p[k], p[i]
		case 2:
			p = slices.Insert(p, rnd.Intn(len(p)), randomSpot(rnd, 51))
		}
		want := api.ErrPanel
		if wantPanel(p) {
			want = api.OK
			valid[len(p)]++
		}
		if got := hinge.CheckPanel(p); got != want {
			t.Fatal(p, got)
		}
	}
	for n := 3; n <= 8; n++ {
		if valid[n] < 100 {
			t.Error("too few valid panels of", n, valid)
		}
	}
}

func TestP5_1ValidLinkages(t *testing.T) {
	far := joint(50, -50, -50, 50, 35)
	for i, l := range []api.Linkage{
		chain(), chain(0), chain(35, 0), chain(35, 0, 35), two(3),
		linkage([]api.Panel{square(), octagon(), triangle(), box(-50, -50, 100, 100)}, far, far, joint(-50, 50, 50, -50, 0)),
		{Panels: []api.Panel{triangle()}, Hinges: []api.Hinge{}},
	} {
		wantErr(t, i, hinge.Check(l), api.OK)
	}
}

func TestP5_1ErrPanelOfLinkages(t *testing.T) {
	panels := slices.Repeat([]api.Panel{square()}, 5)
	hinges := slices.Repeat([]api.Hinge{joint(4, 0, 0, 0, 3)}, 5)
	var bad []api.Linkage
	for n := range 6 {
		for h := range 6 {
			if n < 1 || n > 4 || h != n-1 {
				bad = append(bad, linkage(panels[:n], hinges[:h]...))
			}
		}
	}
	for i := range 3 {
		for _, n := range append([]int{-51, 51, -1, 36}, extremes...) {
			for field := range 5 {
				l := chain(3, 3, 3)
				h := &l.Hinges[i]
				*[]*int{&h.A.X, &h.A.Y, &h.B.X, &h.B.Y, &h.Angle}[field] = n
				if field == 4 && n != 35 || n < -50 || n > 50 {
					bad = append(bad, l)
				}
			}
		}
	}
	for _, l := range bad {
		allFail(t, l, withLinkage(l, 0, 1, spot(0, 0), spot(0, 0), api.Apart{}), api.ErrPanel)
		allFail(t, l, withLinkage(l, -1, -1, spot(51, 0), spot(0, -51), api.Apart{E: -1}), api.ErrPanel)
	}
}
