package steps_test

import (
	"math/rand"
	"slices"
	"testing"

	"studwork/api"
	"studwork/lattice"
	"studwork/steps"
)

func wantCount(t *testing.T, l []api.Kind, m api.Model, r api.Rest, want int, last ...int) {
	t.Helper()
	n, e := steps.Count(l, m, r)
	if e != api.OK || n != want {
		t.Error("count", m, r, n, e, want)
	}
	found, e := steps.Last(l, m, r)
	wantErr(t, m, e, api.OK)
	same(t, m, found, last)
}

func TestP6_4Examples(t *testing.T) {
	wantCount(t, rows(), first(), rest(0), 1, 1)
	wantCount(t, rows(), third(), rest(-1), 1, 1)
}

func TestP6_4Count(t *testing.T) {
	wantCount(t, nil, model(), rest(0), 1)
	wantCount(t, rows(), model(), rest(-5), 1)
	wantCount(t, rows(), model(brick(0, 0, 0, 0, 0)), rest(0), 1, 0)
	wantCount(t, rows(), model(brick(0, 0, 0, 1, 0)), rest(0), 0)
	wantCount(t, rows(), tower(10), rest(0), 1, 9)
	wantCount(t, rows(), apart(3), rest(0), 6, 0, 1, 2)
	wantCount(t, rows(), apart(10), rest(0), 3628800, upTo(10)...)
	// Two towers of two rows: of the six ways to mix them all are good.
	wantCount(t, rows(), model(append(first().Bricks, brick(0, 0, 5, 0, 0), brick(0, 0, 5, 1, 0))...), rest(0), 6, 1, 3)
	// What floats beside a tower has no order, and nothing else has one either.
	wantCount(t, rows(), model(append(first().Bricks, brick(0, 0, 5, 1, 0))...), rest(0), 0)
	wantCount(t, rows(), model(append(first().Bricks, brick(0, 0, 5, 1, 0))...), rest(0, 2), 3, 1, 2)
}

// A brick that stands only when another one is there, which then is in its way, has no order, though the whole model holds.
func TestP6_4NoOrder(t *testing.T) {
	wantCount(t, rows(), hanging(), rest(-62, 1), 0)
	wantCount(t, rows(), hanging(), rest(-63, 1), 1, 0)
	wantCount(t, rows(), hanging(), rest(0, 0, 1), 1, 1)
	// Two bricks that are linked along two axes cannot be put together.
	l, m := crossed()
	wantHeld(t, l, m, rest(0), upTo(2), true)
	wantCount(t, l, m, rest(0), 0)
	// With a roof on the ring of walls the cube can't be the last one.
	walls, ring := corridor()
	wantCount(t, walls, ring, rest(0), 120, upTo(5)...)
	roof := append(slices.Clone(walls), smooth(1, cell(1, 0, 0), cell(0, 1, 0), cell(1, 1, 0), cell(2, 1, 0), cell(1, 2, 0)))
	ring.Bricks = append(ring.Bricks, brick(2, -1, -1, 2, 0))
	wantCount(t, roof, ring, rest(0), len(wantOrders(roof, ring, rest(0))), 0, 1, 2, 3, 5)
}

func TestP6_4ErrMany(t *testing.T) {
	for _, m := range []api.Model{tower(11), apart(11), tower(40)} {
		n, e := steps.Count(rows(), m, rest(0))
		l, f := steps.Last(rows(), m, rest(0))
		allFail(t, len(m.Bricks), map[string]result{"Count": {n, e}, "Last": {l, f}}, api.ErrMany)
	}
}

func lastsOf(orders [][]int) []int {
	var l []int
	for _, o := range orders {
		if last := o[len(o)-1]; !slices.Contains(l, last) {
			l = append(l, last)
		}
	}
	return sorted(l)
}

// All orders of small models are tried, one by one.
func TestP6_4AnyModels(t *testing.T) {
	rnd := rand.New(rand.NewSource(64))
	none, some := 0, 0
	for range 300 {
		l := randomKinds(rnd)
		m := randomModel(rnd, l, 1+rnd.Intn(5))
		r := randomRest(rnd, l, m)
		orders := wantOrders(l, m, r)
		wantCount(t, l, m, r, len(orders), lastsOf(orders)...)
		if len(orders) == 0 {
			none++
		} else if len(m.Bricks) > 2 {
			some++
		}
	}
	if none < 40 || some < 40 {
		t.Error("too few of one sort", none, some)
	}
}

// without returns a model and its rest without a brick.
func without(m api.Model, r api.Rest, brick int) (api.Model, api.Rest) {
	m.Bricks = slices.Delete(slices.Clone(m.Bricks), brick, brick+1)
	left := rest(r.Table)
	for _, i := range r.Hands {
		if i != brick {
			left.Hands = append(left.Hands, i-min(1, max(0, i-brick)))
		}
	}
	return m, left
}

// Count is 0 exactly if there are no steps, and so is the number of last bricks; the good orders are those of the models without one of these.
func TestP6_7LastBricks(t *testing.T) {
	rnd := rand.New(rand.NewSource(67))
	for range 150 {
		l := randomKinds(rnd)
		m := randomModel(rnd, l, 1+rnd.Intn(7))
		r := randomRest(rnd, l, m)
		n, e := steps.Count(l, m, r)
		wantErr(t, m, e, api.OK)
		all, e := steps.Find(l, m, r, 3)
		if (n == 0) != (e == api.ErrNone) || (n == 0) != (len(all) == 0) {
			t.Error(m, r, n, all, e)
		}
		last, e := steps.Last(l, m, r)
		wantErr(t, m, e, api.OK)
		sum := 0
		for _, i := range last {
			fewer, held := without(m, r, i)
			x, e := steps.Count(l, fewer, held)
			if e != api.OK || x == 0 {
				t.Error(m, r, i, x, e)
			}
			sum += x
		}
		if sum != n {
			t.Error(m, r, sum, n)
		}
	}
}

// Turning a model about z, and moving it with its table, changes no orders.
func TestP6_7TurnedAndMoved(t *testing.T) {
	rnd := rand.New(rand.NewSource(69))
	for range 100 {
		l := randomKinds(rnd)
		m := randomModel(rnd, l, 1+rnd.Intn(7))
		r := randomRest(rnd, l, m)
		by := cell(rnd.Intn(1800)-900, rnd.Intn(1800)-900, rnd.Intn(1800)-900)
		other, e := lattice.Move(l, m, rnd.Intn(4), by)
		wantErr(t, m, e, api.OK)
		moved := rest(r.Table+by.Z, r.Hands...)
		n, _ := steps.Count(l, m, r)
		last, _ := steps.Last(l, m, r)
		wantCount(t, l, other, moved, n, last...)
		want, e := steps.Find(l, m, r, 2)
		got, f := steps.Find(l, other, moved, 2)
		wantErr(t, m, f, e)
		same(t, m, orderOf(got), orderOf(want))
	}
}
