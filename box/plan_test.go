package box_test

import (
	"math/rand"
	"slices"
	"testing"

	"studwork/api"
	"studwork/box"
)

func chooses(t *testing.T, c call, value int, take []int, left ...api.Item) {
	t.Helper()
	x, e := box.Choose(c.a, c.plans, c.values)
	wantErr(t, c, e, api.OK)
	same(t, c, x.Take, take)
	same(t, c, x.Left, left)
	if x.Value != value {
		t.Errorf("%v: got value %d, want %d", c, x.Value, value)
	}
}

func TestP8_5Choose(t *testing.T) {
	plans := threePlans()
	chooses(t, call{a: one(3), plans: plans, values: list(5, 4, 9)}, 9, list(2))
	chooses(t, call{a: one(3), plans: plans, values: list(5, 4, 8)}, 9, list(0, 1))
	chooses(t, call{a: one(3), plans: plans, values: list(5, 4, 10)}, 10, list(2))
	chooses(t, call{a: one(4), plans: plans, values: list(5, 4, 9)}, 13, list(1, 2))
	chooses(t, call{a: one(7), plans: plans, values: list(5, 4, 9)}, 18, list(0, 1, 2), item(1, 1, 1))
	chooses(t, call{a: one(2), plans: plans, values: list(5, 4, 9)}, 5, list(0))
	chooses(t, call{a: one(1), plans: plans, values: list(5, 4, 9)}, 4, list(1))
	chooses(t, call{plans: plans, values: list(5, 4, 9)}, 0, nil)
	chooses(t, call{a: one(3)}, 0, nil, one(3)...)
	chooses(t, call{}, 0, nil)
	// What is worth nothing is not taken, not even if it needs nothing.
	chooses(t, call{a: one(6), plans: plans, values: list(5, 0, 0)}, 5, list(0), one(4)...)
	chooses(t, call{a: one(6), plans: plans, values: list(0, 0, 0)}, 0, nil, one(6)...)
	chooses(t, call{plans: list[[]api.Item](nil, nil, one(1)), values: list(0, 1, 1)}, 1, list(1))
	// The first ones of as many.
	chooses(t, call{a: one(2), plans: list(one(1), one(1), one(1), one(1)), values: list(3, 3, 3, 3)}, 6, list(0, 1))
	chooses(t, call{a: one(5), plans: list(one(4), one(2), one(3), one(1)), values: list(3, 4, 4, 5)}, 9, list(1, 3), one(2)...)
	chooses(t, call{a: one(5), plans: list(one(4), one(2), one(3), one(1)), values: list(4, 4, 5, 5)}, 10, list(2, 3), one(1)...)
	chooses(t, call{a: one(5), plans: list(one(4), one(2), one(3), one(1)), values: list(4, 4, 4, 4)}, 8, list(0, 3))
	chooses(t, call{a: one(5), plans: list(one(1), one(3), one(2), one(4)), values: list(4, 4, 4, 4)}, 8, list(0, 1), one(1)...)
	chooses(t, call{a: one(6), plans: list(one(3), one(1), one(2), one(3), one(3)), values: list(5, 5, 5, 10, 5)}, 20, list(1, 2, 3))
	// A plan of several parts.
	two := list(item(1, 1, 2), item(2, 1, 2))
	chooses(t, call{a: two, plans: list(list(item(1, 1, 1), item(2, 1, 2)), list(item(1, 1, 2), item(2, 1, 1))), values: list(1, 2)}, 2, list(1), item(2, 1, 1))
	chooses(t, call{a: two, plans: list(one(1), list(item(1, 1, 1), item(2, 1, 2)), list(item(0, 1, 1))), values: list(1, 1, 9)}, 2, list(0, 1))
	// More parts, and more items, than a stock may have.
	chooses(t, call{a: one(1000), plans: slices.Repeat(list(one(1000)), 8), values: slices.Repeat(list(1000), 8)}, 1000, list(0))
	chooses(t, call{a: kinds(0, 30, 1000), plans: slices.Repeat(list(kinds(0, 30, 125)), 8), values: slices.Repeat(list(1000), 8)}, 8000, upTo(8))
	chooses(t, call{a: kinds(0, 30, 1), plans: list(kinds(30, 30, 1), kinds(60, 30, 1), kinds(10, 20, 1)), values: list(9, 9, 1)}, 1, list(2), kinds(0, 10, 1)...)
}

func shares(t *testing.T, c call, sum int, by ...uint8) {
	t.Helper()
	l, n, e := box.Share(c.a, c.b, c.plans, c.values)
	wantErr(t, c, e, api.OK)
	same(t, c, l, by)
	if n != sum {
		t.Errorf("%v: got sum %d, want %d", c, n, sum)
	}
}

func TestP8_5Share(t *testing.T) {
	plans := threePlans()
	shares(t, call{a: one(2), b: one(1), plans: plans, values: list(5, 4, 9)}, 9, 1, 2, 0)
	shares(t, call{a: one(1), b: one(2), plans: plans, values: list(5, 4, 9)}, 9, 2, 1, 0)
	shares(t, call{a: one(3), b: one(3), plans: plans, values: list(5, 4, 9)}, 18, 1, 1, 2)
	shares(t, call{a: one(3), b: one(2), plans: plans, values: list(5, 4, 9)}, 14, 2, 0, 1)
	shares(t, call{a: one(3), plans: plans, values: list(5, 4, 9)}, 9, 0, 0, 1)
	shares(t, call{b: one(3), plans: plans, values: list(5, 4, 9)}, 9, 0, 0, 2)
	shares(t, call{a: one(6), b: one(6), plans: plans, values: list(5, 4, 9)}, 18, 1, 1, 1)
	shares(t, call{a: one(6), b: one(6), plans: plans, values: list(0, 4, 0)}, 4, 0, 1, 0)
	shares(t, call{a: one(6), b: one(6), plans: plans, values: list(0, 0, 0)}, 0, 0, 0, 0)
	shares(t, call{plans: plans, values: list(5, 4, 9)}, 0, 0, 0, 0)
	shares(t, call{a: one(6), b: one(6)}, 0)
	// A plan is built of one box alone.
	shares(t, call{a: one(2), b: one(1), plans: list(one(3)), values: list(1)}, 0, 0)
	shares(t, call{a: one(1), b: list(item(2, 1, 1)), plans: list(list(item(1, 1, 1), item(2, 1, 1))), values: list(1)}, 0, 0)
	// Nobody is before the first one, who is before the second one: the earlier plans decide, and not how many they are.
	shares(t, call{a: one(3), plans: list(one(1), one(2), one(3)), values: list(4, 5, 9)}, 9, 0, 0, 1)
	shares(t, call{a: one(3), plans: list(one(3), one(1), one(2)), values: list(9, 4, 5)}, 9, 0, 1, 1)
	shares(t, call{a: one(1), b: one(1), plans: list(one(1), one(1), one(1)), values: list(1, 1, 1)}, 2, 0, 1, 2)
	shares(t, call{a: one(3), b: one(3), plans: list(one(2), one(1), one(2), one(1)), values: list(1, 1, 1, 1)}, 4, 1, 1, 2, 2)
	// The greatest ones.
	shares(t, call{a: kinds(0, 30, 1000), b: kinds(0, 30, 1000), plans: slices.Repeat(list(kinds(0, 30, 250)), 8), values: slices.Repeat(list(1000), 8)}, 8000, 1, 1, 1, 1, 2, 2, 2, 2)
	shares(t, call{a: kinds(0, 30, 1000), b: kinds(0, 30, 1000), plans: slices.Repeat(list(kinds(0, 30, 1)), 8), values: slices.Repeat(list(1000), 8)}, 8000, 1, 1, 1, 1, 1, 1, 1, 1)
}

func TestP8_5Errors(t *testing.T) {
	plans := slices.Repeat(list(one(1)), 9)
	fails := func(c call, want api.Errno) {
		t.Helper()
		c.a, c.b = one(9), one(9)
		allFail(t, c, c.ofPlans(), want)
	}
	fails(call{plans: plans, values: make([]int, 9)}, api.ErrMany)
	fails(call{plans: plans, values: list(-1)}, api.ErrMany)
	fails(call{plans: plans}, api.ErrMany)
	fails(call{plans: append(plans[:8:8], one(0)), values: make([]int, 9)}, api.ErrBad)
	for n := range 9 {
		fails(call{plans: plans[:n], values: make([]int, n+1)}, api.ErrArg)
		if n > 0 {
			fails(call{plans: plans[:n], values: make([]int, n-1)}, api.ErrArg)
		}
		for _, x := range append(extremes, 1001) {
			for i := range n {
				values := make([]int, n)
				values[i] = x
				fails(call{plans: plans[:n], values: values}, api.ErrArg)
			}
		}
	}
	chooses(t, call{a: one(9), plans: plans[:8], values: slices.Repeat(list(1000), 8)}, 8000, upTo(8), one(1)...)
}

func TestP8_10Choose(t *testing.T) {
	r := rand.New(rand.NewSource(31))
	ties, some := 0, 0
	for range 2000 {
		c := call{a: randomItems(r, 9)}
		c.plans, c.values = randomPlans(r, 8)
		want := wantChoice(c.a, c.plans, c.values)
		chooses(t, c, want.Value, want.Take, want.Left...)
		if n := len(want.Take); n > 0 && n < len(c.plans) {
			some++
		}
		for _, set := range subsets(len(c.plans)) {
			if slices.Compare(set, want.Take) < 0 && worth(c.values, set) == want.Value && wantTogether(c.a, c.plans, set) {
				ties++
				break
			}
		}
	}
	if ties < 100 || some < 500 {
		t.Error(ties, some)
	}
}

// What is taken, and what is left, are the box; with a greater box the value is not less.
func TestP8_10Box(t *testing.T) {
	r := rand.New(rand.NewSource(32))
	greater := 0
	for range 2000 {
		c := call{a: randomItems(r, 9), b: randomItems(r, 9)}
		c.plans, c.values = randomPlans(r, 8)
		x, e := box.Choose(c.a, c.plans, c.values)
		wantErr(t, c, e, api.OK)
		back := slices.Clone(x.Left)
		for _, i := range x.Take {
			back, e = box.Add(back, c.plans[i])
			wantErr(t, c, e, api.OK)
		}
		same(t, c, back, c.a)
		more, _ := box.Add(c.a, c.b)
		y, e := box.Choose(more, c.plans, c.values)
		wantErr(t, c, e, api.OK)
		if y.Value < x.Value {
			t.Error(c, x, y)
		}
		if y.Value > x.Value {
			greater++
		}
	}
	if greater < 500 {
		t.Error(greater)
	}
}

func TestP8_10Share(t *testing.T) {
	r := rand.New(rand.NewSource(33))
	alone, apart := 0, 0
	for range 1000 {
		c := call{a: randomItems(r, 6), b: randomItems(r, 6)}
		c.plans, c.values = randomPlans(r, 6)
		by, sum := wantShare(c.a, c.b, c.plans, c.values)
		shares(t, c, sum, by...)
		x, _ := box.Choose(c.a, c.plans, c.values)
		y, _ := box.Choose(c.b, c.plans, c.values)
		more, _ := box.Add(c.a, c.b)
		both, _ := box.Choose(more, c.plans, c.values)
		if sum < x.Value || sum < y.Value || sum > both.Value {
			t.Error(c, sum, x, y, both)
		}
		if sum > max(x.Value, y.Value) {
			alone++
		}
		if sum < both.Value {
			apart++
		}
	}
	if alone < 50 || apart < 100 {
		t.Error(alone, apart)
	}
}
