package hinge_test

import (
	"math/rand"
	"slices"
	"testing"

	"studwork/api"
	"studwork/hinge"
)

func line(a, b, c, e int) api.Apart { return api.Apart{Clear: true, A: a, B: b, C: c, E: e} }

func TestP5_3Lines(t *testing.T) {
	l := linkage([]api.Panel{square(), box(5, 0, 4, 4)}, joint(0, 0, 0, 0, 3)) // one place apart
	with := func(p api.Apart, inside ...int) api.Apart {
		p.Inside = inside
		return p
	}
	for i, x := range []struct {
		p    api.Apart
		want api.Errno
	}{
		{line(1, 0, 4, 1), api.OK},
		{line(1, 0, 5, 1), api.OK},
		{line(1, 0, 9, 2), api.OK},
		{line(2, 0, 9, 1), api.OK},
		{line(7, 1, 35, 1), api.OK},
		{line(7, -1, 29, 1), api.OK},
		{with(line(1, 0, 4, 1), []int{}...), api.OK},
		{line(1, 0, 3, 1), api.ErrProof},
		{line(1, 0, 6, 1), api.ErrProof},
		{line(1, 0, 7, 2), api.ErrProof},
		{line(1, 0, 11, 2), api.ErrProof},
		{line(-1, 0, -4, 1), api.ErrProof}, // the other way round
		{line(0, 1, 4, 1), api.ErrProof},
		{line(0, 0, 0, 1), api.ErrProof},
		{line(0, 0, 4, 1), api.ErrProof},
		{line(1, 0, 4, 0), api.ErrProof},
		{line(-1, 0, 4, -1), api.ErrProof},
		{line(1, 0, -4, -1), api.ErrProof},
		{line(4, 1, 19, 1), api.ErrProof}, // one corner of the first one is beyond it
		{line(4, 1, 20, 1), api.OK},
		{line(4, 1, 21, 1), api.ErrProof}, // one of the second one
		{with(line(1, 0, 4, 1), 0), api.ErrProof},
		{with(line(1, 0, 4, 1), 0, 0, 0, 0, 0, 0, 0, 0), api.ErrProof},
		{api.Apart{A: 1, C: 4, E: 1}, api.ErrProof},
		{api.Apart{}, api.ErrProof},
		{api.Apart{Clear: true}, api.ErrProof},
		{api.Apart{Inside: make([]int, 8)}, api.ErrProof},
	} {
		wantErr(t, i, hinge.CheckApart(l, 0, 1, x.p), x.want)
		other := x.p
		other.A, other.B, other.C = -x.p.A, -x.p.B, -x.p.C
		wantErr(t, i, hinge.CheckApart(l, 1, 0, other), x.want)
		if wantRight(l, 0, 1, x.p) != (x.want == api.OK) {
			t.Error(i, "the helper has another opinion")
		}
	}
}

// The limits of a line, and what is one beyond them.
func TestP5_3LimitsOfLines(t *testing.T) {
	const slope, most = 1e7, 1e14
	apart := linkage([]api.Panel{square(), box(5, 0, 4, 4)}, joint(0, 0, 0, 0, 3))
	above := linkage([]api.Panel{square(), box(0, 5, 4, 4)}, joint(0, 0, 0, 0, 3))
	for i, x := range []struct {
		l    api.Linkage
		p    api.Apart
		want api.Errno
	}{
		{apart, line(slope, 0, 4*slope, 1), api.OK},
		{apart, line(slope+1, 0, 4*slope+4, 1), api.ErrProof},
		{above, line(0, slope, 4*slope, 1), api.OK},
		{above, line(0, slope+1, 4*slope+4, 1), api.ErrProof},
		{apart, line(1, 0, 4*20000, 20000), api.OK},
		{apart, line(1, 0, 4*20001, 20001), api.ErrProof},
		{apart, line(slope, 0, 4*slope*20000, 20000), api.OK},
	} {
		wantErr(t, i, hinge.CheckApart(x.l, 0, 1, x.p), x.want)
		x.p.A, x.p.B, x.p.C = -x.p.A, -x.p.B, -x.p.C
		wantErr(t, i, hinge.CheckApart(x.l, 1, 0, x.p), x.want)
	}
	// From (0, 0) to (304, 304): only so far away can C be as large as it may be.
	far := linkage(chain(3, 3, 3).Panels, joint(50, 50, -50, -50, 3), joint(50, 50, -50, -50, 3), joint(50, 50, -50, -50, 3))
	for c, want := range map[int]api.Errno{most - 1: api.OK, most: api.OK, most + 1: api.ErrProof} {
		wantErr(t, c, hinge.CheckApart(far, 0, 3, line(slope, slope, c, 20000)), want)
		wantErr(t, c, hinge.CheckApart(far, 3, 0, line(-slope, -slope, -c, 20000)), want)
	}
}

// Numbers of any size in each place of a proof that is right without them.
func TestP5_3ExtremeLines(t *testing.T) {
	l := linkage([]api.Panel{square(), box(5, 0, 4, 4)}, joint(0, 0, 0, 0, 3))
	for _, n := range extremes {
		for field := range 4 {
			p := line(1, 0, 4, 1)
			*[]*int{&p.A, &p.B, &p.C, &p.E}[field] = n
			wantErr(t, p, hinge.CheckApart(l, 0, 1, p), api.ErrProof)
			wantErr(t, p, hinge.CheckApart(l, 1, 0, p), api.ErrProof)
		}
		wantErr(t, n, hinge.CheckApart(l, 0, 1, line(n, n, n, n)), api.ErrProof)
	}
}

func TestP5_3Corners(t *testing.T) {
	// A triangle of which one corner is in the square, and the triangle's edges have the square to their left.
	l := linkage([]api.Panel{square(), panel(3, 2, 9, 1, 9, 3)}, joint(0, 0, 0, 0, 3))
	right := []int{0, 0, 0, 0, 3, 1, 0}
	for i, x := range []struct {
		at, n int
		want  api.Errno
	}{
		{0, 0, api.OK}, {0, 1, api.OK}, {0, 2, api.OK},
		{1, 0, api.OK}, {1, 1, api.ErrProof}, {1, 2, api.ErrProof},
		{4, 2, api.OK}, {4, 1, api.ErrProof}, {4, 0, api.ErrProof},
		{5, 0, api.OK}, {5, 1, api.OK}, {5, 2, api.OK}, {5, 3, api.OK},
		{6, 0, api.OK}, {6, 1, api.OK}, {6, 3, api.ErrProof},
		{0, -1, api.ErrProof}, {0, 3, api.ErrProof}, {2, 3, api.ErrProof}, {4, 4, api.ErrProof}, {5, -1, api.ErrProof}, {6, 4, api.ErrProof},
	} {
		p := api.Apart{Inside: slices.Clone(right)}
		p.Inside[x.at] = x.n
		wantErr(t, i, hinge.CheckApart(l, 0, 1, p), x.want)
		if wantRight(l, 0, 1, p) != (x.want == api.OK) {
			t.Error(i, "the helper has another opinion")
		}
		// With the panels the other way round the two parts are, too.
		p.Inside = slices.Concat(p.Inside[4:], p.Inside[:4])
		wantErr(t, i, hinge.CheckApart(l, 1, 0, p), x.want)
	}
	for _, n := range extremes {
		for at := range right {
			p := api.Apart{Inside: slices.Clone(right)}
			p.Inside[at] = n
			wantErr(t, p, hinge.CheckApart(l, 0, 1, p), api.ErrProof)
		}
	}
	for _, p := range []api.Apart{
		{}, {Inside: right[:6]}, {Inside: right[:4]}, {Inside: append(slices.Clone(right), 0)}, {Inside: slices.Concat(right, right)},
		{Inside: right, Clear: true}, {Inside: right, A: 1}, {Inside: right, B: 1}, {Inside: right, C: 1}, {Inside: right, E: 1}, {Inside: right, A: -1, E: 1},
	} {
		wantErr(t, p, hinge.CheckApart(l, 0, 1, p), api.ErrProof)
	}
}

// A corner that is on an edge is not inside of it.
func TestP5_3CornersOnEdges(t *testing.T) {
	l := linkage([]api.Panel{square(), box(0, 2, 4, 4)}, joint(0, 0, 0, 0, 3))
	right := []int{0, 0, 0, 1, 2, 0, 0, 1}
	wantErr(t, right, hinge.CheckApart(l, 0, 1, api.Apart{Inside: right}), api.OK)
	for at, n := range map[int]int{1: 1, 3: 0, 5: 1, 7: 0} {
		p := api.Apart{Inside: slices.Clone(right)}
		p.Inside[at] = n
		wantErr(t, p, hinge.CheckApart(l, 0, 1, p), api.ErrProof)
	}
}

// Proofs in which something is another number are held against the words of the chapter.
func TestP5_3AnyProofs(t *testing.T) {
	rnd := rand.New(rand.NewSource(12))
	counts := map[[2]bool]int{}
	for range 1500 {
		l := randomLinkage(rnd, 2+rnd.Intn(3))
		i := rnd.Intn(len(l.Panels))
		k := (i + 1) % len(l.Panels)
		p, _ := hinge.Clash(l, i, k)
		for range 6 {
			other := p
			other.Inside = slices.Clone(p.Inside)
			switch field := rnd.Intn(6); {
			case len(p.Inside) > 0 && field > 1:
				other.Inside[rnd.Intn(len(p.Inside))] = rnd.Intn(10) - 1
			case field == 0:
				other.Clear = !p.Clear
			case field < 5:
				*[]*int{&other.A, &other.B, &other.C, &other.E}[field-1] += rnd.Intn(5) - 2
			default:
				by := 1 + rnd.Intn(5000)
				other.C, other.E = by*p.C+rnd.Intn(3)-1, by*p.E
			}
			want := wantRight(l, i, k, other)
			if got := hinge.CheckApart(l, i, k, other) == api.OK; got != want {
				t.Fatal(l, i, k, other, got)
			}
			counts[[2]bool{want, other.Clear}]++
		}
	}
	for _, x := range [][2]bool{{true, true}, {true, false}, {false, true}, {false, false}} {
		if counts[x] < 300 {
			t.Error(x, counts)
		}
	}
}
