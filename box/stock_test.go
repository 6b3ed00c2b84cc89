package box_test

import (
	"math/rand"
	"slices"
	"testing"

	"studwork/api"
	"studwork/box"
)

// badStocks are lists of items that are no stocks.
func badStocks() [][]api.Item {
	l := [][]api.Item{
		list(item(1, 1, 0)),
		list(item(1, 1, -1)),
		list(item(1, 1, 1001)),
		list(item(-1, 1, 1)),
		list(item(16, 1, 1)),
		list(item(1, 16, 1)),
		list(item(1, 255, 1)),
		list(item(1, 1, 1), item(1, 1, 1)),
		list(item(1, 2, 1), item(1, 1, 1)),
		list(item(2, 1, 1), item(1, 2, 1)),
		list(item(1, 1, 1), item(2, 1, 1), item(1, 2, 1)),
		list(item(0, 0, 1), item(0, 1, 0)),
		list(item(0, 0, 1), item(16, 1, 1)),
		list(item(0, 0, 1), item(0, 16, 1)),
		kinds(0, 31, 1),
		kinds(225, 31, 1000),
	}
	for _, n := range extremes {
		l = append(l, list(item(n, 1, 1)), list(item(1, 1, n)))
	}
	return l
}

func TestP8_1Check(t *testing.T) {
	for _, l := range [][]api.Item{
		nil,
		{},
		one(1),
		one(1000),
		list(item(0, 0, 1)),
		list(item(15, 15, 1000)),
		list(item(1, 1, 1), item(1, 2, 1)),
		list(item(1, 15, 1), item(2, 0, 1)),
		kinds(0, 30, 1000),
		kinds(226, 30, 1),
	} {
		wantErr(t, l, box.Check(l), api.OK)
	}
	for _, l := range badStocks() {
		wantErr(t, l, box.Check(l), api.ErrBad)
	}
}

func TestP8_1AnyStock(t *testing.T) {
	r := rand.New(rand.NewSource(1))
	valid := 0
	for range 20000 {
		var l []api.Item
		at := 0
		for range r.Intn(33) {
			if at += r.Intn(40) - r.Intn(40)/38; r.Intn(3) > 0 {
				at = min(at, 250)
			}
			l = append(l, item(at/16, uint8(max(0, at)%16), r.Intn(1002)))
		}
		for i := range l {
			if r.Intn(50) > 0 && l[i].N == 0 {
				l[i].N = 1
			}
		}
		want := api.ErrBad
		if wantStock(l) {
			want = api.OK
			valid++
		}
		wantErr(t, l, box.Check(l), want)
	}
	if valid < 1000 {
		t.Error(valid)
	}
}

// All other functions with stocks return ErrBad first, whatever else is wrong.
func TestP8_1BadStocks(t *testing.T) {
	wrong := call{
		swaps:  list(swap(1, 1, 1, 1)),
		uses:   list(use(9, 9, 0)),
		counts: list(-1, -1, -1),
		prices: list(price(-1, 0, 0)),
		plans:  slices.Repeat(list(one(1)), 9),
		values: list(-1),
	}
	for _, l := range badStocks() {
		for _, c := range []call{{}, wrong} {
			c.a, c.b = l, one(1)
			allFail(t, l, c.ofStocks(), api.ErrBad)
			allFail(t, l, c.ofPlans(), api.ErrBad)
			c.a, c.b = one(1), l
			allFail(t, l, c.ofStocks(), api.ErrBad)
			c.b = one(1)
			for i := range len(c.plans) + 1 {
				d := c
				d.plans = slices.Insert(slices.Clone(c.plans), i, l)
				allFail(t, l, d.ofPlans(), api.ErrBad)
			}
		}
	}
}

func adds(t *testing.T, a, b, want []api.Item, wanted api.Errno) {
	t.Helper()
	for _, x := range [][2][]api.Item{{a, b}, {b, a}} {
		l, e := box.Add(x[0], x[1])
		wantErr(t, x, e, wanted)
		same(t, x, l, want)
	}
}

func TestP8_1Add(t *testing.T) {
	adds(t, list(item(1, 3, 2), item(4, 0, 1)), list(item(1, 3, 3)), list(item(1, 3, 5), item(4, 0, 1)), api.OK)
	adds(t, nil, nil, nil, api.OK)
	adds(t, one(7), nil, one(7), api.OK)
	adds(t, one(999), one(1), one(1000), api.OK)
	adds(t, one(1000), one(1), nil, api.ErrMany)
	adds(t, one(1000), one(1000), nil, api.ErrMany)
	adds(t, list(item(1, 1, 500), item(2, 1, 501)), list(item(1, 1, 500), item(2, 1, 500)), nil, api.ErrMany)
	adds(t, list(item(1, 1, 1), item(3, 1, 2)), list(item(2, 1, 3), item(3, 0, 4)), list(item(1, 1, 1), item(2, 1, 3), item(3, 0, 4), item(3, 1, 2)), api.OK)
	adds(t, kinds(0, 15, 3), kinds(15, 15, 3), kinds(0, 30, 3), api.OK)
	adds(t, kinds(0, 15, 3), kinds(15, 16, 3), nil, api.ErrMany)
	adds(t, kinds(0, 30, 3), kinds(226, 30, 3), nil, api.ErrMany)
	adds(t, kinds(0, 30, 500), kinds(0, 30, 500), kinds(0, 30, 1000), api.OK)
	adds(t, kinds(0, 30, 500), kinds(1, 30, 500), nil, api.ErrMany)
}

func takes(t *testing.T, a, b, want []api.Item, wanted api.Errno) {
	t.Helper()
	l, e := box.Take(a, b)
	wantErr(t, list(a, b), e, wanted)
	same(t, list(a, b), l, want)
}

func TestP8_1Take(t *testing.T) {
	two := list(item(1, 3, 2), item(4, 0, 1))
	takes(t, two, list(item(1, 3, 2)), list(item(4, 0, 1)), api.OK)
	takes(t, list(item(1, 3, 2)), two, nil, api.ErrNone)
	takes(t, two, list(item(1, 3, 1)), list(item(1, 3, 1), item(4, 0, 1)), api.OK)
	takes(t, two, list(item(1, 3, 3)), nil, api.ErrNone)
	takes(t, two, list(item(4, 0, 1)), list(item(1, 3, 2)), api.OK)
	takes(t, two, list(item(4, 0, 2)), nil, api.ErrNone)
	takes(t, two, two, nil, api.OK)
	takes(t, two, nil, two, api.OK)
	takes(t, nil, nil, nil, api.OK)
	takes(t, nil, one(1), nil, api.ErrNone)
	// Of other kinds and colours, before, between and after those that are there.
	for _, x := range []api.Item{item(0, 0, 1), item(1, 2, 1), item(1, 4, 1), item(2, 3, 1), item(4, 1, 1), item(15, 15, 1)} {
		takes(t, two, list(x), nil, api.ErrNone)
	}
	takes(t, kinds(0, 30, 1000), kinds(0, 30, 999), kinds(0, 30, 1), api.OK)
	takes(t, kinds(0, 30, 1000), kinds(10, 20, 1000), kinds(0, 10, 1000), api.OK)
}

// Random stocks, whose sums and differences are counted part by part.
func TestP8_1AnySum(t *testing.T) {
	r := rand.New(rand.NewSource(2))
	within := 0
	for range 5000 {
		a, b := randomItems(r, 9), randomItems(r, 3)
		more := itemsOf(has(append(slices.Clone(a), b...)...))
		adds(t, a, b, more, api.OK)
		less := has(a...)
		for _, x := range b {
			less[place(x.Kind, x.Color)] -= x.N
		}
		if slices.Min(less[:]) < 0 {
			takes(t, a, b, nil, api.ErrNone)
			continue
		}
		within++
		takes(t, a, b, itemsOf(less), api.OK)
	}
	if within < 500 {
		t.Error(within)
	}
}

// randomStock is a stock of up to 30 of all parts.
func randomStock(r *rand.Rand) []api.Item {
	var n [256]int
	for range r.Intn(31) {
		n[r.Intn(60)] = 1 + r.Intn(1+r.Intn(1000))
	}
	return itemsOf(n)
}

func TestP8_7Undone(t *testing.T) {
	r := rand.New(rand.NewSource(3))
	added, taken := 0, 0
	for range 10000 {
		a, b := randomStock(r), randomStock(r)
		if sum, e := box.Add(a, b); e == api.OK {
			wantErr(t, sum, box.Check(sum), api.OK)
			takes(t, sum, b, a, api.OK)
			takes(t, sum, a, b, api.OK)
			added++
		}
		b = slices.DeleteFunc(slices.Clone(a), func(api.Item) bool { return r.Intn(2) == 0 })
		for i := range b {
			b[i].N += r.Intn(2)/(1+r.Intn(40)) - r.Intn(b[i].N)
		}
		if left, e := box.Take(a, b); e == api.OK {
			wantErr(t, left, box.Check(left), api.OK)
			adds(t, left, b, a, api.OK)
			taken++
		}
	}
	if added < 500 || taken < 500 {
		t.Error(added, taken)
	}
}

func TestP8_7Order(t *testing.T) {
	r := rand.New(rand.NewSource(4))
	sums := 0
	for range 10000 {
		a, b, c := randomStock(r), randomStock(r), randomStock(r)
		ab, e := box.Add(a, b)
		if e != api.OK {
			adds(t, a, b, nil, e)
			continue
		}
		adds(t, a, b, ab, api.OK)
		all, e := box.Add(ab, c)
		bc, e2 := box.Add(b, c)
		if e2 == api.OK {
			adds(t, a, bc, all, e)
			sums++
		} else if e == api.OK {
			t.Error(a, b, c)
		}
	}
	if sums < 200 {
		t.Error(sums)
	}
}
