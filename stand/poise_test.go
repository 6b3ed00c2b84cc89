package stand_test

import (
	"math/rand"
	"slices"
	"testing"

	"studwork/api"
	"studwork/lattice"
	"studwork/stand"
)

// wantBalance checks that Balance says what it should, with a proof that is right, and that CheckPoise accepts.
func wantBalance(t *testing.T, what any, l []api.Kind, m api.Model, r api.Rest, part []int, want bool) api.Poise {
	t.Helper()
	p, e := stand.Balance(l, m, r, part)
	if e != api.OK || p.Balanced != want || !wantRight(l, m, r, part, p) {
		t.Errorf("%v: %v %v %v: got %v %d, want %v", what, m, r, part, p, e, want)
	}
	wantErr(t, what, stand.CheckPoise(l, m, r, part, p), api.OK)
	return p
}

func TestP3_3BalanceExamples(t *testing.T) {
	p := wantBalance(t, "example", rows(), first(), rest(0), []int{1}, true)
	if !slices.Contains([][3]int{{0, 1, 4}, {0, 1, 3}, {0, 3, 4}, {1, 3, 4}, {1, 2, 4}}, p.At) {
		t.Error(p)
	}
	// The point is (98 / 23, 0), and so to the right of the stud.
	for i, x := range []struct {
		at   [3]int
		want api.Errno
	}{
		{[3]int{1, 2, 4}, api.OK},
		{[3]int{0, 2, 3}, api.ErrProof},
		{[3]int{0, 1, 4}, api.OK},
		{[3]int{0, 1, 2}, api.ErrProof},
		{[3]int{1, 4, 4}, api.ErrProof},
		{[3]int{0, 4, 4}, api.ErrProof},
		{[3]int{2, 2, 2}, api.ErrProof},
		{[3]int{4, 2, 1}, api.ErrProof},
		{[3]int{2, 1, 4}, api.ErrProof},
		{[3]int{1, 4, 2}, api.ErrProof},
		{[3]int{1, 2, 5}, api.ErrProof},
		{[3]int{-1, 1, 4}, api.ErrProof},
	} {
		wantErr(t, i, stand.CheckPoise(rows(), first(), rest(0), []int{1}, api.Poise{Balanced: true, At: x.at}), x.want)
	}
	wantBalance(t, "whole", rows(), first(), rest(0), []int{0, 1}, true)
	wantBalance(t, "third", rows(), third(), rest(0), []int{0, 1, 2}, false)
	wantBalance(t, "hanging", rows(), hanging(), rest(-1, 0), []int{1}, false)
	wantBalance(t, "all that hangs", rows(), hanging(), rest(-1, 0), []int{0, 1}, true)
}

// A beam on one smooth cube has its point at the cube's edge, just inside, or just outside.
func TestP3_3Edge(t *testing.T) {
	l := []api.Kind{smooth(1, cell(0, 0, 0)), smooth(2, cell(0, 0, 0), cell(1, 0, 0)), smooth(3, cell(0, 0, 0), cell(1, 0, 0), cell(2, 0, 0))}
	for turn := range uint8(4) {
		for kind, want := range []bool{true, true, false} {
			wantBalance(t, turn, l, model(brick(0, 5, 5, 0, 0), brick(kind, 5, 5, 1, turn)), rest(0), []int{1}, want)
		}
	}
	// Just at the edge, and it is the same with the cube, which is lighter.
	m := model(brick(0, 5, 5, 0, 0), brick(1, 5, 5, 1, 0))
	on := []api.Support{at(9, 9), at(11, 9), at(9, 11), at(11, 11)}
	wantList(t, "edge", l, m, rest(0), []int{1}, on...)
	for i, x := range []struct {
		p    api.Poise
		want api.Errno
	}{
		{api.Poise{Balanced: true, At: [3]int{1, 1, 3}}, api.OK},
		{api.Poise{Balanced: true, At: [3]int{1, 3, 3}}, api.OK},
		{api.Poise{Balanced: true, At: [3]int{0, 1, 3}}, api.OK},
		{api.Poise{Balanced: true, At: [3]int{0, 2, 3}}, api.ErrProof},
		{api.Poise{Balanced: true, At: [3]int{3, 3, 3}}, api.ErrProof},
		{api.Poise{A: 1, C: 11}, api.ErrProof},
		{api.Poise{A: 1, C: 10}, api.ErrProof},
		{api.Poise{At: [3]int{1, 1, 3}}, api.ErrProof},
	} {
		wantErr(t, i, stand.CheckPoise(l, m, rest(0), []int{1}, x.p), x.want)
	}
}

// A line that is right for what tips, and all that is wrong with others.
func TestP3_3Lines(t *testing.T) {
	l := []api.Kind{smooth(1, cell(0, 0, 0)), smooth(3, cell(0, 0, 0), cell(1, 0, 0), cell(2, 0, 0))}
	m := model(brick(0, 5, 5, 0, 0), brick(1, 5, 5, 1, 0))
	wantBalance(t, "beam", l, m, rest(0), []int{1}, false)
	// The supports are from (9, 9) to (11, 11), and the point is (12, 10).
	for i, x := range []struct {
		p    api.Poise
		want api.Errno
	}{
		{api.Poise{A: 1, C: 11}, api.OK},
		{api.Poise{A: 2, C: 23}, api.OK},
		{api.Poise{A: 1, C: 12}, api.ErrProof},
		{api.Poise{A: 1, C: 10}, api.ErrProof},
		{api.Poise{A: 10000, C: 110000}, api.OK},
		{api.Poise{A: 10000, C: 119999}, api.OK},
		{api.Poise{A: 10000, C: 120000}, api.ErrProof},
		{api.Poise{A: 10000, C: 109999}, api.ErrProof},
		{api.Poise{A: 10001, C: 110011}, api.ErrProof},
		{api.Poise{A: 3, B: 1, C: 45}, api.OK},
		{api.Poise{A: 3, B: 1, C: 46}, api.ErrProof},
		{api.Poise{A: 3, B: 1, C: 43}, api.ErrProof},
		{api.Poise{A: 3, B: -1, C: 25}, api.OK},
		{api.Poise{A: 10000, B: -10000, C: 20000}, api.ErrProof},
		{api.Poise{A: 10000, B: -9999, C: 20009}, api.OK},
		{api.Poise{A: 10000, B: -9999, C: 20008}, api.ErrProof},
		{api.Poise{A: 10000, B: -9999, C: 20010}, api.ErrProof},
		{api.Poise{A: 10000, B: -4999, C: 65009}, api.OK},
		{api.Poise{A: -1, C: -13}, api.ErrProof},
		{api.Poise{}, api.ErrProof},
		{api.Poise{C: -1}, api.ErrProof},
		{api.Poise{A: 1, C: 11, At: [3]int{0, 0, 1}}, api.ErrProof},
		{api.Poise{A: 1, C: 11, At: [3]int{-1, 0, 0}}, api.ErrProof},
		{api.Poise{Balanced: true, A: 1, C: 11}, api.ErrProof},
		{api.Poise{Balanced: true, At: [3]int{0, 1, 3}}, api.ErrProof},
		{api.Poise{Balanced: true, At: [3]int{1, 3, 3}}, api.ErrProof},
	} {
		wantErr(t, i, stand.CheckPoise(l, m, rest(0), []int{1}, x.p), x.want)
		if good := x.want == api.OK; good != wantRight(l, m, rest(0), []int{1}, x.p) {
			t.Error("the reference does not agree", i)
		}
	}
}

// The fields of the other sort of proof are zeros.
func TestP3_3OtherFields(t *testing.T) {
	for i, p := range []api.Poise{{A: 1}, {B: -1}, {C: 1}, {A: 1, B: 1, C: 1}} {
		p.Balanced, p.At = true, [3]int{1, 2, 4}
		wantErr(t, i, stand.CheckPoise(rows(), first(), rest(0), []int{1}, p), api.ErrProof)
	}
}

// Without supports everything tips, over any line below the point.
func TestP3_3NoSupports(t *testing.T) {
	m := model(brick(0, -1000, 0, 5, 0))
	wantBalance(t, "no supports", rows(), m, rest(0), []int{0}, false)
	wantBalance(t, "no supports", rows(), model(brick(0, -1000, -1000, 5, 2)), rest(0), []int{0}, false)
	const far = 1 << 40
	// The point is (-1998, 0).
	for i, x := range []struct {
		p    api.Poise
		want api.Errno
	}{
		{api.Poise{A: 1, C: -1999}, api.OK},
		{api.Poise{A: 1, C: -1998}, api.ErrProof},
		{api.Poise{A: -1, C: 1997}, api.OK},
		{api.Poise{A: -1, C: 1998}, api.ErrProof},
		{api.Poise{B: 10000, C: -far}, api.OK},
		{api.Poise{B: -10000, C: -far}, api.OK},
		{api.Poise{A: -10000, C: -far}, api.OK},
		{api.Poise{B: 10000, C: -far - 1}, api.ErrProof},
		{api.Poise{B: 10001, C: -far}, api.ErrProof},
		{api.Poise{B: -10001, C: -far}, api.ErrProof},
		{api.Poise{A: -10001, C: -far}, api.ErrProof},
		{api.Poise{A: -10000, C: far}, api.ErrProof},
		{api.Poise{C: -far}, api.ErrProof},
		{api.Poise{Balanced: true}, api.ErrProof},
		{api.Poise{Balanced: true, At: [3]int{-1, -1, -1}}, api.ErrProof},
	} {
		wantErr(t, i, stand.CheckPoise(rows(), m, rest(0), []int{0}, x.p), x.want)
	}
	for _, n := range extremes {
		for _, p := range []api.Poise{{A: n, C: -far}, {B: n, C: -far}, {A: 1, C: n}, {A: n, B: n, C: n}, {Balanced: true, At: [3]int{n, n, n}}, {Balanced: true, At: [3]int{0, 0, n}}, {Balanced: true, At: [3]int{n, 0, 0}}} {
			want := api.ErrProof
			if wantRight(rows(), m, rest(0), []int{0}, p) {
				want = api.OK
			}
			wantErr(t, p, stand.CheckPoise(rows(), m, rest(0), []int{0}, p), want)
		}
	}
}

// Pulls alone may be supports: at one place, or on a line, between which the point is, or beside it.
func TestP3_3SupportsOnALine(t *testing.T) {
	// The brick 0 has pins at the sides of some of its cells, along y, and cubes that hold them.
	l := []api.Kind{{Cells: []api.Cell{cell(0, 0, 0), cell(1, 0, 0), cell(2, 0, 0), cell(3, 0, 0), cell(4, 0, 0)}, Weight: 100}, smooth(1, cell(0, 0, 0))}
	for x := range 5 {
		l[0].Knobs = append(l[0].Knobs, knob(x, 0, 0, 2, 1))
	}
	l[1].Knobs = []api.Knob{knob(0, 0, 0, 3, 2)}
	hold := func(places ...int) api.Model {
		m := model(brick(0, 0, 0, 5, 0))
		for _, x := range places {
			m.Bricks = append(m.Bricks, brick(1, x, 1, 5, 0))
		}
		return m
	}
	// The point is nearer to y = 0 than to the line of the pulls, which is y = 1.
	for i, places := range [][]int{{0}, {2}, {0, 4}, {3, 4}, {0, 1, 2, 3, 4}} {
		wantBalance(t, i, l, hold(places...), rest(0), []int{0}, false)
	}
	// Two that pull at both sides have the point between them.
	sides := l
	sides[0].Knobs = nil
	for x := range 5 {
		sides[0].Knobs = append(sides[0].Knobs, knob(x, 0, 0, 2, 1), knob(x, 0, 0, 3, 2))
	}
	sides = append(sides, smooth(1, cell(0, 0, 0)))
	sides[2].Knobs = []api.Knob{knob(0, 0, 0, 2, 1)}
	m := model(brick(0, 0, 0, 5, 0), brick(1, 2, 1, 5, 0), brick(2, 2, -1, 5, 0))
	p := wantBalance(t, "both sides", sides, m, rest(0), []int{0}, true)
	if p.At[2] != 1 {
		t.Error(p)
	}
	m.Bricks[2].At.X = 3
	wantBalance(t, "not opposite", sides, m, rest(0), []int{0}, false)
	// On the line through both pulls of 20, which are at (2, 0) and (4, 0): the middle of a bar of n cells is (1 + n, 0), and so the point is between them or not.
	for n, want := range map[int]bool{2: true, 3: true, 4: false, 15: false} {
		long := []api.Kind{bar(n, 100), bar(2, 1)}
		wantBalance(t, n, long, model(brick(1, 1, 0, 1, 0), brick(0, 1, 0, 0, 0)), rest(-1), []int{1}, want)
	}
	for n := 1; n <= 16; n++ {
		long := []api.Kind{bar(n, 100), bar(1, 1), bar(2, 1), bar(3, 1)}
		for _, on := range []int{1, 2, 3} {
			for turn := range uint8(4) {
				for _, at := range []api.Cell{cell(0, 0, 0), cell(7, -3, 5), cell(-900, 40, 0)} {
					m := model(brick(on, at.X, at.Y, at.Z+1, turn), brick(0, at.X, at.Y, at.Z, turn))
					wantBalance(t, n, long, m, rest(-1), []int{1}, wantBalanced(long, m, rest(-1), []int{1}))
					checkThrees(t, long, m, rest(-1), []int{1})
				}
			}
		}
	}
}

// checkThrees checks that CheckPoise is right for all three supports of a part, and one beyond them.
func checkThrees(t *testing.T, l []api.Kind, m api.Model, r api.Rest, part []int) {
	t.Helper()
	n := len(wantSupports(l, m, r, part))
	for a := range n + 1 {
		for b := range n + 1 {
			for c := range n + 1 {
				p := api.Poise{Balanced: true, At: [3]int{a, b, c}}
				want := api.ErrProof
				if wantRight(l, m, r, part, p) {
					want = api.OK
				}
				wantErr(t, p, stand.CheckPoise(l, m, r, part, p), want)
			}
		}
	}
}

// Three places are a triangle whichever of them is the middle one, to the left or to the right.
func TestP3_3Triangles(t *testing.T) {
	cells := []api.Cell{cell(0, 0, 0), cell(1, 0, 0), cell(2, 0, 0), cell(0, 1, 0), cell(1, 1, 0), cell(2, 1, 0), cell(0, 2, 0), cell(1, 2, 0), cell(2, 2, 0)}
	seen := map[bool]int{}
	for set := range 1 << 9 {
		studs := bits(set)
		if len(studs) != 3 {
			continue
		}
		floor := smooth(100, cells...)
		m := model(brick(0, 4, -7, 0, 0))
		for _, i := range studs {
			floor.Knobs = append(floor.Knobs, api.Knob{At: cells[i], Dir: 4, Sort: 1})
			m.Bricks = append(m.Bricks, brick(1, 4+cells[i].X, -7+cells[i].Y, 1, 0))
		}
		l := []api.Kind{floor, bar(1, 1)}
		want := wantBalanced(l, m, rest(-1), []int{0})
		seen[want]++
		wantBalance(t, studs, l, m, rest(-1), []int{0}, want)
		checkThrees(t, l, m, rest(-1), []int{0})
	}
	if seen[true] < 10 || seen[false] < 10 {
		t.Error("too few of one sort", seen)
	}
}

// A part is balanced exactly if three of its supports carry it, and there is one proof or the other.
func TestP3_6OneProof(t *testing.T) {
	rnd := rand.New(rand.NewSource(61))
	seen := map[bool]int{}
	for range 120 {
		l := randomKinds(rnd)
		m := randomModel(rnd, l, 10)
		r := randomRest(rnd, l, m)
		for range 3 {
			part := randomPart(rnd, len(m.Bricks))
			want := wantBalanced(l, m, r, part)
			seen[want]++
			p := wantBalance(t, "random", l, m, r, part, want)
			checkPoises(t, rnd, l, m, r, part, p)
		}
	}
	if seen[true] < 60 || seen[false] < 60 {
		t.Error("too few of one sort", seen)
	}
}

// checkPoises changes a right poise: CheckPoise agrees with the words of the chapter on each change.
func checkPoises(t *testing.T, rnd *rand.Rand, l []api.Kind, m api.Model, r api.Rest, part []int, p api.Poise) {
	t.Helper()
	supports := wantSupports(l, m, r, part)
	for range 6 {
		x := p
		switch rnd.Intn(5) {
		case 0:
			x.C += rnd.Intn(5) - 2
		case 1:
			x.A, x.B = x.A+rnd.Intn(3)-1, x.B+rnd.Intn(3)-1
		case 2:
			x.At[rnd.Intn(3)] = rnd.Intn(len(supports)+2) - 1
		case 3:
			x = api.Poise{Balanced: true, At: [3]int{rnd.Intn(len(supports) + 1), rnd.Intn(len(supports) + 1), rnd.Intn(len(supports) + 1)}}
			slices.Sort(x.At[:])
		case 4:
			x.Balanced = !x.Balanced
		}
		want := api.ErrProof
		if wantRight(l, m, r, part, x) {
			want = api.OK
			if x.Balanced != p.Balanced {
				t.Error("both proofs", p, x)
			}
		}
		wantErr(t, x, stand.CheckPoise(l, m, r, part, x), want)
	}
}

// Turning a model about z, and moving it with its table, changes nothing.
func TestP3_6Moves(t *testing.T) {
	rnd := rand.New(rand.NewSource(62))
	for i := range 100 {
		l := randomKinds(rnd)
		m := randomModel(rnd, l, 12)
		r := randomRest(rnd, l, m)
		by := cell(rnd.Intn(1900)-950, rnd.Intn(1900)-950, rnd.Intn(1900)-950)
		moved, e := lattice.Move(l, m, i%4, by)
		wantErr(t, "move", e, api.OK)
		s := rest(r.Table+by.Z, r.Hands...)
		fall, _ := stand.Falling(l, m, r)
		fell, e := stand.Falling(l, moved, s)
		wantErr(t, "falling", e, api.OK)
		same(t, "falling", fell, fall)
		part := randomPart(rnd, len(m.Bricks))
		p, _ := stand.Balance(l, m, r, part)
		wantBalance(t, "moved", l, moved, s, part, p.Balanced)
		z, ok, _ := stand.Topples(l, m, r)
		if ok {
			z += by.Z
		}
		if got := topples(l, moved, s); got != (result{plane{z, ok}, api.OK}) {
			t.Error("topples", got, z, ok)
		}
	}
}

// A part all of whose cells are on the table is balanced, whatever pulls at it.
func TestP3_8OnTheTable(t *testing.T) {
	rnd := rand.New(rand.NewSource(38))
	for range 200 {
		l := randomKinds(rnd)
		m := randomModel(rnd, l, 14)
		r := randomRest(rnd, l, m)
		var flat []int
		for i, b := range m.Bricks {
			if !slices.ContainsFunc(cellsOf(l, b), func(c api.Cell) bool { return c.Z != r.Table }) {
				flat = append(flat, i)
			}
		}
		if len(flat) > 0 {
			wantBalance(t, "flat", l, m, r, flat, true)
			wantBalance(t, "one", l, m, r, flat[:1], true)
		}
	}
	// Also a brick whose cells do not hang together, and with its middle far from all of them.
	l := []api.Kind{smooth(9, cell(0, 0, 0), cell(15, 0, 0), cell(0, 15, 0))}
	for turn := range uint8(4) {
		wantBalance(t, turn, l, model(brick(0, 0, 0, 0, turn)), rest(0), []int{0}, true)
	}
}

func TestP3_4Examples(t *testing.T) {
	for i, x := range []struct {
		m    api.Model
		r    api.Rest
		want plane
	}{
		{first(), rest(0), plane{}},
		{third(), rest(0), plane{0, true}},
		{model(), rest(0), plane{}},
		{model(), rest(-2000), plane{}},
	} {
		if got := topples(rows(), x.m, x.r); got != (result{x.want, api.OK}) {
			t.Error(i, got)
		}
	}
}

func TestP3_4Topples(t *testing.T) {
	l := []api.Kind{smooth(1, cell(0, 0, 0)), smooth(3, cell(0, 0, 0), cell(1, 0, 0), cell(2, 0, 0)), smooth(100, cell(0, 0, 0), cell(0, 0, 1)), smooth(100, cell(0, 0, 0))}
	for i, x := range []struct {
		m    api.Model
		r    api.Rest
		want plane
	}{
		// A heavy tower at the table, and a beam on top of it that tips over its edge.
		{model(brick(2, 0, 0, 0, 0), brick(3, 0, 0, 2, 0), brick(1, 0, 0, 3, 0)), rest(0), plane{3, true}},
		{model(brick(2, 0, 0, -1000, 0), brick(3, 0, 0, -998, 0), brick(1, 0, 0, -997, 0)), rest(-1000), plane{-997, true}},
		// With a light cube under the beam, both tip.
		{model(brick(2, 0, 0, 0, 0), brick(0, 0, 0, 2, 0), brick(1, 0, 0, 3, 0)), rest(0), plane{1, true}},
		{model(brick(2, 0, 0, 1000, 8)), rest(999), plane{}},
		// The beam lies across two cubes of a part that has nothing else.
		{model(brick(0, 0, 0, 0, 0), brick(0, 2, 0, 0, 0), brick(1, 0, 0, 1, 0)), rest(0), plane{}},
		// The planes between the table and the model have all of it above them.
		{model(brick(0, 0, 0, 7, 0)), rest(-2000), plane{-2000, true}},
		{model(brick(0, 0, 0, 7, 0)), rest(7), plane{}},
		{model(brick(0, 0, 0, 7, 0)), rest(6), plane{6, true}},
		{model(brick(0, 0, 0, 7, 0)), rest(-2000, 0), plane{}},
		// A tall brick is only in the parts from its lowest cell down: above it, the beam is alone.
		{model(brick(2, 0, 0, 0, 0), brick(1, 0, 0, 2, 0)), rest(0), plane{1, true}},
		{model(brick(2, 0, 0, 0, 0), brick(1, 0, 0, 2, 0)), rest(0, 1), plane{}},
	} {
		if got := topples(l, x.m, x.r); got != (result{x.want, api.OK}) {
			t.Error(i, got)
		}
	}
}

func TestP3_4AnyModels(t *testing.T) {
	rnd := rand.New(rand.NewSource(34))
	seen := map[int]int{}
	for range 300 {
		l := randomKinds(rnd)
		m := randomModel(rnd, l, 10)
		r := randomRest(rnd, l, m)
		if rnd.Intn(2) == 0 {
			r = rest(r.Table, all(len(m.Bricks))...)
			r.Hands = slices.DeleteFunc(r.Hands, func(int) bool { return rnd.Intn(5) == 0 })
		}
		z, ok := wantTopples(l, m, r)
		if got := topples(l, m, r); got != (result{plane{z, ok}, api.OK}) {
			t.Error(m, r, got, z, ok)
		}
		if ok {
			seen[z-r.Table]++
		} else {
			seen[-1]++
		}
	}
	if seen[-1] < 20 || seen[0] < 10 || seen[1] < 10 || seen[2] < 10 {
		t.Error("too few of one sort", seen)
	}
}
