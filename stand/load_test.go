package stand_test

import (
	"math/rand"
	"slices"
	"testing"

	"studwork/api"
	"studwork/stand"
)

func TestP3_2FallingExamples(t *testing.T) {
	for i, x := range []struct {
		m    api.Model
		r    api.Rest
		want []int
	}{
		{first(), rest(0), nil},
		{hanging(), rest(-1, 0), nil},
		{model(brick(0, 0, 0, 1, 0)), rest(0), []int{0}},
		{model(), rest(0), nil},
	} {
		l, e := stand.Falling(rows(), x.m, x.r)
		wantErr(t, i, e, api.OK)
		same(t, i, l, x.want)
	}
}

func TestP3_2LoadsExample(t *testing.T) {
	l, e := stand.Loads(rows(), first(), rest(0))
	wantErr(t, "first", e, api.OK)
	same(t, "first", l, []api.Load{load(0, -1, 6), load(1, 0, 3)})
	l, e = stand.Loads(rows(), hanging(), rest(-1, 0))
	wantErr(t, "hanging", e, api.OK)
	same(t, "hanging", l, []api.Load{load(0, -1, 6), load(1, 0, 3)})
	l, e = stand.Loads(nil, model(), rest(0))
	wantErr(t, "no bricks", e, api.OK)
	same(t, "no bricks", l, nil)
}

// chainOf returns bricks of the weights that hang under each other, each on one stud, with the uppermost one in a hand.
func chainOf(weights ...int) ([]api.Kind, api.Model, api.Rest) {
	var l []api.Kind
	var m api.Model
	for i, w := range weights {
		l = append(l, bar(1, w))
		m.Bricks = append(m.Bricks, brick(i, 0, 0, len(weights)-i, 0))
	}
	return l, m, rest(0, 0)
}

// A stud carries 20: just so much, and no more.
func TestP3_2FallsByOne(t *testing.T) {
	for i, x := range []struct {
		weights []int
		want    []int
		excess  int
	}{
		{[]int{1, 20}, nil, 0},
		{[]int{100, 12, 8}, nil, 0},
		{[]int{1, 21}, []int{1}, 1},
		{[]int{1, 12, 9}, []int{1, 2}, 1},
		{[]int{1, 1, 21}, []int{1, 2}, 2},
		{[]int{1, 1, 19}, nil, 0},
		{[]int{1, 5, 30}, []int{1, 2}, 15},
		{[]int{1, 5, 30, 1}, []int{1, 2, 3}, 16},
		{[]int{1, 5, 1, 30}, []int{1, 2, 3}, 16},
	} {
		l, m, r := chainOf(x.weights...)
		fall, e := stand.Falling(l, m, r)
		wantErr(t, i, e, api.OK)
		same(t, i, fall, x.want)
		n, e := stand.Excess(l, m, r, x.want)
		if e != api.OK || n != x.excess {
			t.Error(i, n, e)
		}
		loads, e := stand.Loads(l, m, r)
		if x.excess == 0 && e != api.OK || x.excess > 0 && (e != api.ErrProof || len(loads) > 0) {
			t.Error(i, loads, e)
		}
	}
}

// Of the sets with the greatest excess, the one with the fewest bricks falls. The brick 1 hangs under 0 by two studs, and 2 under 1 by one: without 1, the excess is 50 - 20, and with it 50 + 20 - 40.
func TestP3_2FewestFall(t *testing.T) {
	m, r := model(brick(0, 0, 0, 2, 0), brick(1, 0, 0, 1, 0), brick(2, 0, 0, 0, 0)), rest(-1, 0)
	for weight, want := range map[int][]int{19: {2}, 20: {2}, 21: {1, 2}} {
		l := []api.Kind{bar(2, 1), bar(2, weight), bar(1, 50)}
		fall, e := stand.Falling(l, m, r)
		wantErr(t, weight, e, api.OK)
		same(t, weight, fall, want)
		n, e := stand.Excess(l, m, r, fall)
		if e != api.OK || n != max(30, weight+10) {
			t.Error(weight, n, e)
		}
	}
}

// What is between a falling brick and a hand may stay, and a second hand carries what is below it.
func TestP3_2Hands(t *testing.T) {
	l, m, _ := chainOf(1, 1, 30, 20)
	for i, x := range []struct {
		r    api.Rest
		want []int
	}{
		{rest(0), []int{0, 1, 2, 3}},
		{rest(0, 0), []int{1, 2, 3}},
		{rest(0, 1), []int{2, 3}},
		{rest(0, 2), nil},
		{rest(0, 3), nil},
		{rest(0, 0, 1), []int{2, 3}},
		{rest(1), nil},
	} {
		fall, e := stand.Falling(l, m, x.r)
		wantErr(t, i, e, api.OK)
		same(t, i, fall, x.want)
	}
}

// Loads may go up and down, and through several bricks at once.
func TestP3_2LoadsShare(t *testing.T) {
	// A beam of 4 cells hangs under two pillars that are held: each can carry 20 of its 40.
	l := []api.Kind{bar(4, 40), bar(1, 1), bar(4, 41)}
	m := model(brick(0, 0, 0, 0, 0), brick(1, 0, 0, 1, 0), brick(1, 3, 0, 1, 0))
	loads, e := stand.Loads(l, m, rest(-1, 1, 2))
	wantErr(t, "beam", e, api.OK)
	same(t, "beam", loads, []api.Load{load(0, 1, 20), load(0, 2, 20), load(1, -1, 21), load(2, -1, 21)})
	m.Bricks[0].Kind = 2
	fall, e := stand.Falling(l, m, rest(-1, 1, 2))
	wantErr(t, "heavier beam", e, api.OK)
	same(t, "heavier beam", fall, []int{0})
	// With the table it is carried however heavy it is.
	fall, e = stand.Falling(l, m, rest(0))
	wantErr(t, "on the table", e, api.OK)
	same(t, "on the table", fall, nil)
}

// A weight that was put on one way may have to take another one, so that there is room for the next weight: of the smooth bricks 0 and 1, the first lies on both 2 and 3, and the other one on 2 only; each of these hangs by two studs.
func TestP3_2LoadsAreTakenBack(t *testing.T) {
	m := model(brick(0, 3, 0, 1, 0), brick(1, 2, 0, 1, 0), brick(2, 0, 0, 0, 0), brick(2, 4, 0, 0, 0), brick(3, 0, 0, 1, 0), brick(3, 6, 0, 1, 0))
	r := rest(-1, 4, 5)
	for weight, want := range map[int][]int{30: nil, 39: nil, 40: {0, 1, 2, 3}} {
		l := []api.Kind{smooth(weight, cell(0, 0, 0), cell(1, 0, 0)), smooth(39, cell(0, 0, 0)), bar(4, 1), bar(2, 1)}
		fall, e := stand.Falling(l, m, r)
		wantErr(t, weight, e, api.OK)
		same(t, weight, fall, want)
		loads, e := stand.Loads(l, m, r)
		if want == nil && (e != api.OK || !wantProof(l, m, r, loads)) {
			t.Error(weight, loads, e)
		}
	}
}

func TestP3_2CheckLoads(t *testing.T) {
	for i, x := range []struct {
		loads []api.Load
		want  api.Errno
	}{
		{[]api.Load{load(0, -1, 6), load(1, 0, 3)}, api.OK},
		{[]api.Load{load(0, -1, 6), load(0, 1, 20), load(1, 0, 23)}, api.OK},
		{[]api.Load{load(0, -1, 6), load(0, 1, 21), load(1, 0, 24)}, api.ErrProof},
		{[]api.Load{load(1, 0, 3), load(0, -1, 6)}, api.ErrProof},
		{[]api.Load{load(0, -1, 3), load(0, -1, 3), load(1, 0, 3)}, api.ErrProof},
		{[]api.Load{load(0, 1, 20), load(0, -1, 6), load(1, 0, 23)}, api.ErrProof},
		{[]api.Load{load(0, -1, 6), load(1, 0, 1), load(1, 0, 2)}, api.ErrProof},
		{[]api.Load{load(0, -1, 3), load(1, -1, 3)}, api.ErrProof},
		{[]api.Load{load(0, -1, 6), load(0, 0, 5), load(1, 0, 3)}, api.ErrProof},
		{[]api.Load{load(0, -1, 6), load(1, 0, 3), load(1, 1, 1)}, api.ErrProof},
		{[]api.Load{load(0, -1, 5), load(1, 0, 3)}, api.ErrProof},
		{[]api.Load{load(0, -1, 6), load(1, 0, 4)}, api.ErrProof},
		{[]api.Load{load(0, -1, 6)}, api.ErrProof},
		{[]api.Load{load(0, -1, 6), load(0, 1, 0), load(1, 0, 3)}, api.ErrProof},
		{[]api.Load{load(0, -1, 6), load(0, 1, -3)}, api.ErrProof},
		{[]api.Load{load(0, -2, 6), load(1, 0, 3)}, api.ErrProof},
		{[]api.Load{load(0, -1, 6), load(1, 0, 3), load(1, 2, 1)}, api.ErrProof},
		{[]api.Load{load(-1, -1, 1), load(0, -1, 6), load(1, 0, 3)}, api.ErrProof},
		{[]api.Load{load(0, -1, 6), load(1, 0, 3), load(2, -1, 1)}, api.ErrProof},
		{nil, api.ErrProof},
	} {
		wantErr(t, i, stand.CheckLoads(rows(), first(), rest(0), x.loads), x.want)
	}
	wantErr(t, "no bricks", stand.CheckLoads(nil, model(), rest(0), nil), api.OK)
	wantErr(t, "no bricks", stand.CheckLoads(nil, model(), rest(0), []api.Load{load(0, -1, 1)}), api.ErrProof)
	// What is on the ground and also on another brick may put its weight on either.
	both := []api.Load{load(0, -1, 3), load(1, -1, 3)}
	wantErr(t, "held", stand.CheckLoads(rows(), first(), rest(0, 1), both), api.OK)
	wantErr(t, "held", stand.CheckLoads(rows(), first(), rest(0, 1), []api.Load{load(0, -1, 5), load(1, -1, 1), load(1, 0, 2)}), api.OK)
}

// A load may be as great as MaxLoad, and not greater, also where a brick may put any load.
func TestP3_2MaxLoad(t *testing.T) {
	hook := smooth(1, cell(0, 0, 0), cell(1, 0, 0), cell(0, 0, 1), cell(0, 0, 2), cell(1, 0, 2))
	l, m := []api.Kind{hook}, model(brick(0, 0, 0, 0, 0), brick(0, 2, 0, 1, 2))
	const most = 1 << 30
	for i, x := range []struct {
		loads []api.Load
		want  api.Errno
	}{
		{[]api.Load{load(0, -1, 2), load(0, 1, most-1), load(1, 0, most)}, api.OK},
		{[]api.Load{load(0, -1, 2), load(0, 1, most), load(1, 0, most+1)}, api.ErrProof},
		{[]api.Load{load(0, -1, most+1), load(0, 1, 1), load(1, 0, most)}, api.ErrProof},
	} {
		wantErr(t, i, stand.CheckLoads(l, m, rest(0), x.loads), x.want)
		if good := x.want == api.OK; good != wantProof(l, m, rest(0), x.loads) {
			t.Error("the reference does not agree", i)
		}
	}
	for _, n := range extremes {
		for i, loads := range [][]api.Load{
			{load(n, -1, 6), load(1, 0, 3)},
			{load(0, -1, n), load(1, 0, 3)},
			{load(0, -1, n), load(1, 0, n)},
			{load(0, 1, n), load(1, 0, n)},
		} {
			wantErr(t, i, stand.CheckLoads(rows(), first(), rest(0), loads), api.ErrProof)
		}
		if n != -1 {
			wantErr(t, n, stand.CheckLoads(rows(), first(), rest(0), []api.Load{load(0, n, 6), load(1, 0, 3)}), api.ErrProof)
		}
	}
}

func TestP3_2Excess(t *testing.T) {
	l, m, r := chainOf(7, 30, 12, 5)
	for i, x := range []struct {
		set  []int
		want int
		e    api.Errno
	}{
		{nil, 0, api.OK},
		{[]int{}, 0, api.OK},
		{[]int{1, 2, 3}, 47 - 20, api.OK},
		{[]int{2, 3}, 17 - 20, api.OK},
		{[]int{3}, 5 - 20, api.OK},
		{[]int{1}, 0, api.ErrProof},
		{[]int{1, 2}, 0, api.ErrProof},
		{[]int{1, 3}, 0, api.ErrProof},
		{[]int{0}, 0, api.ErrProof},
		{[]int{0, 1, 2, 3}, 0, api.ErrProof},
		{[]int{4}, 0, api.ErrArg},
		{[]int{0, 4}, 0, api.ErrArg},
		{[]int{-1, 0}, 0, api.ErrArg},
		{[]int{2, 1}, 0, api.ErrArg},
		{[]int{1, 1}, 0, api.ErrArg},
	} {
		n, e := stand.Excess(l, m, r, x.set)
		if e != x.e || n != x.want {
			t.Error(i, n, e)
		}
	}
	for _, n := range extremes {
		for _, set := range [][]int{{n}, {0, n}, {n, n}} {
			_, e := stand.Excess(l, m, r, set)
			wantErr(t, set, e, api.ErrArg)
		}
	}
}

func wantOf(l []api.Kind, m api.Model, r api.Rest, set []int) (int, api.Errno) {
	n, ok := wantExcess(l, m, r, set)
	if !ok {
		return 0, api.ErrProof
	}
	return n, api.OK
}

func TestP3_2ExcessOfAnySets(t *testing.T) {
	rnd := rand.New(rand.NewSource(32))
	for range 60 {
		l := randomKinds(rnd)
		m := randomModel(rnd, l, 5)
		r := randomRest(rnd, l, m)
		for set := range 1 << len(m.Bricks) {
			n, e := stand.Excess(l, m, r, bits(set))
			want, wantE := wantOf(l, m, r, bits(set))
			if n != want || e != wantE {
				t.Fatal(m, r, bits(set), n, e, want, wantE)
			}
		}
	}
}

// A model has loads that carry it, or bricks that fall, and never both.
func TestP3_5OneProof(t *testing.T) {
	rnd := rand.New(rand.NewSource(35))
	carried, falls := 0, 0
	for range 300 {
		l := randomKinds(rnd)
		m := randomModel(rnd, l, 9)
		r := randomRest(rnd, l, m)
		want := wantFalling(t, l, m, r)
		fall, e := stand.Falling(l, m, r)
		wantErr(t, m, e, api.OK)
		same(t, m, fall, want)
		loads, e := stand.Loads(l, m, r)
		if len(want) > 0 {
			falls++
			if e != api.ErrProof || len(loads) > 0 {
				t.Error("falls", m, r, loads, e)
			}
			n, e := stand.Excess(l, m, r, fall)
			if e != api.OK || n <= 0 {
				t.Error("excess", m, r, n, e)
			}
			continue
		}
		carried++
		if e != api.OK || !wantProof(l, m, r, loads) {
			t.Error("carried", m, r, loads, e)
		}
		wantErr(t, loads, stand.CheckLoads(l, m, r, loads), api.OK)
		checkChanges(t, rnd, l, m, r, loads)
	}
	if carried < 50 || falls < 50 {
		t.Error("too few of one sort", carried, falls)
	}
}

// checkChanges changes loads that carry a model: CheckLoads agrees with the words of the chapter on each change.
func checkChanges(t *testing.T, rnd *rand.Rand, l []api.Kind, m api.Model, r api.Rest, loads []api.Load) {
	t.Helper()
	for i := range loads {
		for range 4 {
			c := slices.Clone(loads)
			switch rnd.Intn(5) {
			case 0:
				c = slices.Delete(c, i, i+1)
			case 1:
				c = append(c[:i+1], c[i:]...)
			case 2:
				c[i].Amount += rnd.Intn(3) - 1
			case 3:
				c[i].To = rnd.Intn(len(m.Bricks)+1) - 1
			case 4:
				c[i].From = rnd.Intn(len(m.Bricks))
			}
			want := api.ErrProof
			if wantProof(l, m, r, c) {
				want = api.OK
			}
			wantErr(t, c, stand.CheckLoads(l, m, r, c), want)
		}
	}
}

// Models of all sizes have one of the two proofs.
func TestP3_5LargeModels(t *testing.T) {
	rnd := rand.New(rand.NewSource(36))
	for range 60 {
		l := randomKinds(rnd)
		m := randomModel(rnd, l, 40)
		r := randomRest(rnd, l, m)
		fall, e := stand.Falling(l, m, r)
		wantErr(t, m, e, api.OK)
		loads, e := stand.Loads(l, m, r)
		if len(fall) == 0 {
			if e != api.OK || !wantProof(l, m, r, loads) {
				t.Error("carried", m, r, loads, e)
			}
			continue
		}
		wantErr(t, m, e, api.ErrProof)
		if n, ok := wantExcess(l, m, r, fall); !ok || n <= 0 {
			t.Error("excess", m, r, fall, n)
		}
		// With all that falls in hands, nothing falls.
		r.Hands = append(r.Hands, fall...)
		slices.Sort(r.Hands)
		loads, e = stand.Loads(l, m, r)
		if e != api.OK || !wantProof(l, m, r, loads) {
			t.Error("held", m, r, loads, e)
		}
	}
}

// The greatest model there is: a tower of 40 bricks of 100, and the same one in a hand at its top, which is too heavy.
func TestP3_5Tower(t *testing.T) {
	heavy := []api.Kind{bar(12, 100)}
	var m api.Model
	for z := range 40 {
		m.Bricks = append(m.Bricks, brick(0, 0, 0, z, 0))
	}
	loads, e := stand.Loads(heavy, m, rest(0))
	if e != api.OK || !wantProof(heavy, m, rest(0), loads) || loads[0] != load(0, -1, 4000) {
		t.Error(loads, e)
	}
	for _, n := range []int{40, 41, 42} {
		wantErr(t, n, stand.CheckLoads(heavy, m, rest(0), append(loads, load(39, n, 1))), api.ErrProof)
		wantErr(t, n, stand.CheckLoads(heavy, m, rest(0), append(loads, load(n, -1, 1))), api.ErrProof)
	}
	fall, e := stand.Falling(heavy, m, rest(-1, 39))
	wantErr(t, "tower", e, api.OK)
	same(t, "tower", fall, all(39))
	n, e := stand.Excess(heavy, m, rest(-1, 39), fall)
	if e != api.OK || n != 3900-240 {
		t.Error(n, e)
	}
}

// Without joints, and with nothing above another brick, all bricks have to be on the ground.
func TestP3_7NothingHolds(t *testing.T) {
	rnd := rand.New(rand.NewSource(37))
	cube := []api.Kind{smooth(5, cell(0, 0, 0))}
	for range 200 {
		var m api.Model
		for x := range 8 {
			if rnd.Intn(3) > 0 {
				m.Bricks = append(m.Bricks, brick(0, x, rnd.Intn(5), rnd.Intn(2), 0))
			}
		}
		r := randomRest(rnd, cube, m)
		var want []int
		for i, is := range wantGrounded(cube, m, r) {
			if !is {
				want = append(want, i)
			}
		}
		fall, e := stand.Falling(cube, m, r)
		wantErr(t, m, e, api.OK)
		same(t, m, fall, want)
	}
}

// More hands never make a brick fall.
func TestP3_7MoreHands(t *testing.T) {
	rnd := rand.New(rand.NewSource(38))
	for range 60 {
		l := randomKinds(rnd)
		m := randomModel(rnd, l, 14)
		r := randomRest(rnd, l, m)
		fell, _ := stand.Falling(l, m, r)
		for i := range m.Bricks {
			if slices.Contains(r.Hands, i) {
				continue
			}
			more := rest(r.Table, append(slices.Clone(r.Hands), i)...)
			slices.Sort(more.Hands)
			fall, e := stand.Falling(l, m, more)
			wantErr(t, m, e, api.OK)
			for _, b := range fall {
				if b == i || !slices.Contains(fell, b) {
					t.Error("falls", m, r, i, fell, fall)
				}
			}
		}
	}
}

// Two models that do not touch fall as each of them does alone.
func TestP3_7Apart(t *testing.T) {
	rnd := rand.New(rand.NewSource(39))
	for range 100 {
		l := randomKinds(rnd)
		a, b := randomModel(rnd, l, 10), randomModel(rnd, l, 10)
		r, s := randomRest(rnd, l, a), randomRest(rnd, l, b)
		r.Table = min(r.Table, s.Table)
		s.Table = r.Table
		want, _ := stand.Falling(l, a, r)
		second, _ := stand.Falling(l, b, s)
		for _, i := range second {
			want = append(want, i+len(a.Bricks))
		}
		both, hands := model(slices.Clone(a.Bricks)...), rest(r.Table, r.Hands...)
		for _, x := range b.Bricks {
			x.At.X += 100
			both.Bricks = append(both.Bricks, x)
		}
		for _, i := range s.Hands {
			hands.Hands = append(hands.Hands, i+len(a.Bricks))
		}
		fall, e := stand.Falling(l, both, hands)
		wantErr(t, both, e, api.OK)
		same(t, both, fall, want)
	}
}
