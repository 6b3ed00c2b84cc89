package steps_test

import (
	"math/rand"
	"slices"
	"testing"

	"studwork/api"
	"studwork/steps"
)

func wantFound(t *testing.T, l []api.Kind, m api.Model, r api.Rest, most int, want ...api.Step) {
	t.Helper()
	found, e := steps.Find(l, m, r, most)
	wantErr(t, m, e, api.OK)
	sameSteps(t, m, found, want)
}

func TestP6_2Examples(t *testing.T) {
	wantFound(t, rows(), first(), rest(0), 1, step(0, put(0, 0)), step(0, put(1, 5)))
	wantFound(t, rows(), first(), rest(0), 2, step(0, put(0, 0), put(1, 5)))
}

func TestP6_2Find(t *testing.T) {
	wantFound(t, nil, model(), rest(0), 1)
	wantFound(t, rows(), model(), rest(9), 8)
	wantFound(t, rows(), first(), rest(0), 8, step(0, put(0, 0), put(1, 5)))
	wantFound(t, rows(), third(), rest(-1), 2, step(0, put(2, 0), put(0, 5)), step(0, put(1, 5)))
	// The way is the first one that is free: from below, and beside others.
	wantFound(t, rows(), hanging(), rest(-63, 1), 2, step(0, put(1, 0), put(0, 4)))
	wantFound(t, cubes(), model(brick(0, -1, 0, 0, 0), brick(0, 0, 0, 0, 0)), rest(0), 1, step(0, put(0, 0)), step(1, put(1, 1)))
	l, m := corridor()
	wantFound(t, l, m, rest(0), 3,
		step(2, put(0, 0), put(1, 1), put(2, 0)),
		step(4, put(3, 0), put(4, 5)))
}

// Steps have so many puts, but for the last one, which has those that are left.
func TestP6_2Most(t *testing.T) {
	for n := range 11 {
		for most := 1; most <= 8; most++ {
			found, e := steps.Find(rows(), tower(n), rest(0), most)
			wantErr(t, n, e, api.OK)
			same(t, n, orderOf(found), upTo(n))
			if len(found) != (n+most-1)/most {
				t.Error(n, most, found)
			}
			for i, x := range found {
				if i < len(found)-1 && len(x.Puts) != most || len(x.Puts) == 0 || len(x.Puts) > most {
					t.Error(n, most, found)
				}
			}
		}
	}
}

// The least number of a direction is the view, of those in which most bricks of the step are seen, with those of the steps before.
func TestP6_2View(t *testing.T) {
	row := func(n int) api.Model {
		var m api.Model
		for x := range n {
			m.Bricks = append(m.Bricks, brick(0, x, 0, 0, 0))
		}
		return m
	}
	// All are seen along y, and only one along x.
	for i, want := range []uint8{0, 2, 2, 2, 2} {
		found, e := steps.Find(cubes(), row(i+1), rest(0), 8)
		if e != api.OK || len(found) != 1 || found[0].View != want {
			t.Error(i, found, e)
		}
	}
	// The bricks of the steps before hide those of a step from -x, and do not count.
	wantFound(t, cubes(), row(3), rest(0), 1, step(0, put(0, 0)), step(1, put(1, 1)), step(1, put(2, 1)))
	wantFound(t, cubes(), row(3), rest(0), 2, step(2, put(0, 0), put(1, 1)), step(1, put(2, 1)))
	wantFound(t, cubes(), model(brick(0, 0, 0, 0, 0), brick(0, 2, 0, 0, 0), brick(0, 1, 0, 0, 0)), rest(0), 2,
		step(2, put(0, 0), put(1, 1)), step(2, put(2, 2)))
}

func TestP6_2Errors(t *testing.T) {
	for _, x := range []struct {
		m    api.Model
		r    api.Rest
		most int
		want api.Errno
	}{
		{first(), rest(0), 0, api.ErrArg},
		{first(), rest(0), 9, api.ErrArg},
		{first(), rest(0), -1, api.ErrArg},
		{model(), rest(0), 0, api.ErrArg},
		{model(), rest(0), 9, api.ErrArg},
		{tower(11), rest(0), 1, api.ErrMany},
		{tower(11), rest(0), 0, api.ErrMany},
		{tower(40), rest(-1), 9, api.ErrMany},
		{first(), rest(-1), 1, api.ErrNone},
		{first(), rest(-1), 0, api.ErrArg},
		{hanging(), rest(0, 1), 8, api.ErrNone},
		{tower(10), rest(-1), 8, api.ErrNone},
	} {
		found, e := steps.Find(rows(), x.m, x.r, x.most)
		allFail(t, x, map[string]result{"Find": {found, e}}, x.want)
	}
	for _, n := range extremes {
		found, e := steps.Find(rows(), first(), rest(0), n)
		allFail(t, n, map[string]result{"Find": {found, e}}, api.ErrArg)
		wantErr(t, n, steps.Check(rows(), first(), rest(0), n, []api.Step{step(0, put(0, 0), put(1, 5))}), api.ErrArg)
	}
	l, m := crossed()
	_, e := steps.Find(l, m, rest(0), 1)
	wantErr(t, "crossed", e, api.ErrNone)
}

// The first of all good orders, each way the least one: held against all orders of small models.
func TestP6_2AnyModels(t *testing.T) {
	rnd := rand.New(rand.NewSource(65))
	for range 300 {
		l := randomKinds(rnd)
		m := randomModel(rnd, l, 1+rnd.Intn(5))
		r := randomRest(rnd, l, m)
		most := 1 + rnd.Intn(8)
		orders := wantOrders(l, m, r)
		if len(orders) > 0 {
			wantFound(t, l, m, r, most, wantGuide(l, m, r, orders[0], most)...)
			continue
		}
		found, e := steps.Find(l, m, r, most)
		allFail(t, m, map[string]result{"Find": {found, e}}, api.ErrNone)
	}
}

func TestP6_3Check(t *testing.T) {
	for i, x := range []struct {
		most int
		all  []api.Step
		want api.Errno
	}{
		{1, []api.Step{step(0, put(0, 0)), step(0, put(1, 5))}, api.OK},
		{2, []api.Step{step(0, put(0, 0)), step(0, put(1, 5))}, api.OK},
		{2, []api.Step{step(0, put(0, 0), put(1, 5))}, api.OK},
		{8, []api.Step{step(0, put(0, 5), put(1, 5))}, api.OK},
		{8, []api.Step{step(0, put(0, 3)), step(0, put(1, 5))}, api.OK},
		// They have no form.
		{1, nil, api.ErrSteps},
		{1, []api.Step{step(0, put(0, 0))}, api.ErrSteps},
		{1, []api.Step{step(0, put(0, 0), put(1, 5))}, api.ErrSteps},
		{2, []api.Step{step(0, put(0, 0), put(0, 0))}, api.ErrSteps},
		{2, []api.Step{step(0, put(0, 0), put(1, 5)), step(0, put(1, 5))}, api.ErrSteps},
		{2, []api.Step{step(0, put(0, 0), put(1, 5)), step(0)}, api.ErrSteps},
		{2, []api.Step{step(0), step(0, put(0, 0), put(1, 5))}, api.ErrSteps},
		{8, []api.Step{step(0, put(0, 0), put(2, 5))}, api.ErrSteps},
		{8, []api.Step{step(0, put(0, 0), put(1, 5), put(2, 5))}, api.ErrSteps},
		{8, []api.Step{step(0, put(-1, 0), put(0, 0), put(1, 5))}, api.ErrSteps},
		{8, []api.Step{step(0, put(0, 6), put(1, 5))}, api.ErrSteps},
		{8, []api.Step{step(0, put(0, 0), put(1, 255))}, api.ErrSteps},
		{8, []api.Step{step(6, put(0, 0), put(1, 5))}, api.ErrSteps},
		// An error of the form is one before all of those of steps.
		{1, []api.Step{step(0, put(1, 0)), step(0, put(0, 6))}, api.ErrSteps},
		{1, []api.Step{step(5, put(0, 4)), step(9, put(1, 5))}, api.ErrSteps},
		{0, []api.Step{step(6)}, api.ErrArg},
		{9, nil, api.ErrArg},
		// The first error of the steps.
		{1, []api.Step{step(0, put(0, 4)), step(0, put(1, 5))}, api.ErrWay},
		{1, []api.Step{step(0, put(0, 0)), step(0, put(1, 0))}, api.ErrWay},
		{1, []api.Step{step(0, put(0, 0)), step(0, put(1, 4))}, api.ErrWay},
		{2, []api.Step{step(5, put(0, 4), put(1, 0))}, api.ErrWay},
		{1, []api.Step{step(0, put(1, 5)), step(0, put(0, 4))}, api.ErrFalls},
		{2, []api.Step{step(0, put(1, 5), put(0, 4))}, api.ErrFalls},
		{1, []api.Step{step(1, put(1, 0)), step(1, put(0, 4))}, api.ErrFalls},
		{1, []api.Step{step(1, put(0, 0)), step(0, put(1, 5))}, api.ErrView},
		{1, []api.Step{step(1, put(0, 0)), step(0, put(1, 4))}, api.ErrView},
		{1, []api.Step{step(0, put(0, 0)), step(5, put(1, 5))}, api.ErrView},
		{2, []api.Step{step(2, put(0, 0), put(1, 5))}, api.ErrView},
		{2, []api.Step{step(2, put(0, 0), put(1, 4))}, api.ErrWay},
	} {
		wantErr(t, i, steps.Check(rows(), first(), rest(0), x.most, x.all), x.want)
		if want := wantCheck(rows(), first(), rest(0), x.most, x.all); want != x.want {
			t.Error("the reference does not agree", i, want)
		}
	}
	for _, n := range extremes {
		for _, all := range [][]api.Step{{step(0, put(n, 0)), step(0, put(1, 5))}, {step(0, put(0, 0)), step(0, put(n, 5))}} {
			wantErr(t, n, steps.Check(rows(), first(), rest(0), 1, all), api.ErrSteps)
		}
	}
	wantErr(t, "no bricks", steps.Check(nil, model(), rest(0), 1, nil), api.OK)
	wantErr(t, "no bricks", steps.Check(nil, model(), rest(0), 1, []api.Step{{}}), api.ErrSteps)
	wantErr(t, "no bricks", steps.Check(nil, model(), rest(0), 1, []api.Step{step(0, put(0, 0))}), api.ErrSteps)
}

// A brick that falls when it comes, and one that makes another one fall.
func TestP6_3Falls(t *testing.T) {
	// One brick hangs on the stud of another one, which is held, and a third one on it: together they are too heavy for a stud if each weighs 12.
	l := []api.Kind{bar(1, 12)}
	m := model(brick(0, 0, 0, 3, 0), brick(0, 0, 0, 2, 0), brick(0, 0, 0, 1, 0))
	all := []api.Step{step(0, put(0, 0)), step(0, put(1, 4)), step(0, put(2, 4))}
	wantErr(t, "heavy", steps.Check(l, m, rest(-100, 0), 1, all), api.ErrFalls)
	l[0].Weight = 10
	wantErr(t, "light", steps.Check(l, m, rest(-100, 0), 1, all), api.OK)
	wantErr(t, "not held", steps.Check(l, m, rest(-100), 1, all), api.ErrFalls)
	wantErr(t, "too low", steps.Check(l, m, rest(0, 0), 1, all), api.ErrWay)
}

// Check takes models with more bricks than Find, up to 40.
func TestP6_3LargeModels(t *testing.T) {
	for _, most := range []int{1, 7, 8} {
		var all []api.Step
		for part := range slices.Chunk(upTo(40), most) {
			x := api.Step{}
			for _, i := range part {
				x.Puts = append(x.Puts, put(i, 5))
			}
			all = append(all, x)
		}
		wantErr(t, most, steps.Check(rows(), tower(40), rest(0), most, all), api.OK)
		wantErr(t, most, steps.Check(rows(), tower(40), rest(-1), most, all), api.ErrFalls)
		late := copySteps(all)
		late[len(late)-1].Puts[0].Dir = 4
		wantErr(t, most, steps.Check(rows(), tower(40), rest(0), most, late), api.ErrWay)
		late = copySteps(all)
		late[len(late)-1].View = 5
		wantErr(t, most, steps.Check(rows(), tower(40), rest(0), most, late), api.ErrView)
		wantErr(t, most, steps.Check(rows(), tower(40), rest(0), most, all[1:]), api.ErrSteps)
	}
}

// change changes one thing in steps.
func change(rnd *rand.Rand, all []api.Step, bricks int) []api.Step {
	all = copySteps(all)
	i := rnd.Intn(len(all))
	x := &all[i]
	j := rnd.Intn(len(x.Puts))
	switch rnd.Intn(6) {
	case 0:
		x.View = uint8(rnd.Intn(7))
	case 1:
		x.Puts[j].Dir = uint8(rnd.Intn(7))
	case 2:
		x.Puts[j].Brick = rnd.Intn(bricks+2) - 1
	case 3:
		k := rnd.Intn(len(all))
		all[i], all[k] = all[k], all[i]
	case 4:
		k := rnd.Intn(len(all))
		o := rnd.Intn(len(all[k].Puts))
		x.Puts[j], all[k].Puts[o] = all[k].Puts[o], x.Puts[j]
	case 5:
		x.Puts = slices.Delete(x.Puts, j, j+1)
	}
	return all
}

func TestP6_3AnySteps(t *testing.T) {
	rnd := rand.New(rand.NewSource(63))
	counts := map[api.Errno]int{}
	for range 400 {
		l := randomKinds(rnd)
		m := randomModel(rnd, l, 2+rnd.Intn(4))
		r := randomRest(rnd, l, m)
		most := 1 + rnd.Intn(3)
		order := rnd.Perm(len(m.Bricks))
		if orders := wantOrders(l, m, r); len(orders) > 0 {
			order = orders[rnd.Intn(len(orders))]
		}
		var all []api.Step
		for i, b := range order {
			if i == 0 || len(all[len(all)-1].Puts) == most || rnd.Intn(3) == 0 {
				all = append(all, api.Step{})
			}
			x := &all[len(all)-1]
			ways := append(wantWays(l, m, r, order[:i], b), 5)
			x.Puts = append(x.Puts, put(b, uint8(ways[rnd.Intn(max(1, len(ways)-1))])))
			x.View = wantView(l, m, order[:i+1], x.Puts)
		}
		for range 6 {
			want := wantCheck(l, m, r, most, all)
			wantErr(t, []any{m, r, most, all}, steps.Check(l, m, r, most, all), want)
			counts[want]++
			if len(all[0].Puts) == 0 || slices.ContainsFunc(all, func(x api.Step) bool { return len(x.Puts) == 0 }) {
				break
			}
			all = change(rnd, all, len(m.Bricks))
			if slices.ContainsFunc(all, func(x api.Step) bool { return len(x.Puts) == 0 }) {
				break
			}
		}
	}
	for _, e := range []api.Errno{api.OK, api.ErrSteps, api.ErrWay, api.ErrFalls, api.ErrView} {
		if counts[e] < 30 {
			t.Error("too few of one sort", e, counts[e])
		}
	}
}

// Check accepts what Find returns, and no steps in an order before it; without a good order it accepts none.
func TestP6_5FindIsAccepted(t *testing.T) {
	rnd := rand.New(rand.NewSource(66))
	for range 150 {
		l := randomKinds(rnd)
		m := randomModel(rnd, l, 1+rnd.Intn(10))
		r := randomRest(rnd, l, m)
		most := 1 + rnd.Intn(8)
		all, e := steps.Find(l, m, r, most)
		if e != api.OK {
			wantErr(t, m, e, api.ErrNone)
			continue
		}
		wantErr(t, all, steps.Check(l, m, r, most, all), api.OK)
		same(t, m, sorted(orderOf(all)), upTo(len(m.Bricks)))
		wantErr(t, all, wantCheck(l, m, r, most, all), api.OK)
	}
}

// permutations yields all orders of n bricks, in lexicographic order.
func permutations(n int, yield func([]int)) {
	var extend func([]int)
	extend = func(order []int) {
		if len(order) == n {
			yield(order)
		}
		for i := range n {
			if !slices.Contains(order, i) {
				extend(append(slices.Clone(order), i))
			}
		}
	}
	extend(nil)
}

func TestP6_5NothingBeforeFind(t *testing.T) {
	rnd := rand.New(rand.NewSource(70))
	accepted, none := 0, 0
	for range 80 {
		l := randomKinds(rnd)
		m := randomModel(rnd, l, 3+rnd.Intn(2))
		r := randomRest(rnd, l, m)
		all, e := steps.Find(l, m, r, 1)
		if e == api.ErrNone {
			none++
		}
		permutations(len(m.Bricks), func(order []int) {
			ok := tries(l, m, r, order)
			if ok {
				accepted++
			}
			if ok && (e == api.ErrNone || slices.Compare(order, orderOf(all)) < 0) {
				t.Error(m, r, order, all, e)
			}
		})
	}
	if accepted < 100 || none < 10 {
		t.Error("too few of one sort", accepted, none)
	}
}

// tries tells whether Check accepts some steps of one put each in an order. A direction in which a put comes changes nothing for those after it.
func tries(l []api.Kind, m api.Model, r api.Rest, order []int) bool {
	var all []api.Step
	for i, b := range order {
		ways, _ := steps.Ways(l, m, r, sorted(order[:i]), b)
		if len(ways) == 0 {
			return false
		}
		x := step(0, put(b, uint8(ways[0])))
		x.View = wantView(l, m, order[:i+1], x.Puts)
		all = append(all, x)
	}
	return steps.Check(l, m, r, 1, all) == api.OK
}
