package box_test

import (
	"math/rand"
	"reflect"
	"slices"
	"testing"

	"studwork/api"
	"studwork/box"
)

func buys(t *testing.T, c call, cost int, filled []int, bought ...api.Item) {
	t.Helper()
	b, e := box.Buy(c.a, c.b, c.swaps, c.prices)
	wantErr(t, c, e, api.OK)
	same(t, c, b.Filled, filled)
	same(t, c, b.Buy, bought)
	if b.Cost != cost {
		t.Errorf("%v: got cost %d, want %d", c, b.Cost, cost)
	}
}

func buyFails(t *testing.T, c call, want api.Errno) {
	t.Helper()
	allFail(t, c, map[string]result{"Buy": of(box.Buy(c.a, c.b, c.swaps, c.prices))}, want)
}

func TestP8_4Buy(t *testing.T) {
	prices := list(price(1, 1, 5), price(2, 1, 3))
	buys(t, call{a: one(4), b: first(), swaps: others(), prices: prices}, 3, list(3, 1), item(2, 1, 1))
	buys(t, call{a: one(5), b: first(), swaps: others(), prices: prices}, 0, list(3, 2))
	buys(t, call{a: one(5), b: first(), prices: prices}, 6, list(3, 0), item(2, 1, 2))
	buys(t, call{b: first(), prices: prices}, 21, list(0, 0), item(1, 1, 3), item(2, 1, 2))
	buys(t, call{a: one(5), prices: prices}, 0, nil)
	buys(t, call{a: one(5), b: one(5)}, 0, list(5))
	buys(t, call{}, 0, nil)
	// The dearer one of two that may be filled by the same part, wherever it is.
	buys(t, call{a: one(4), b: first(), swaps: others(), prices: list(price(1, 1, 3), price(2, 1, 5))}, 3, list(3, 1), item(1, 1, 1))
	three := list(item(2, 1, 2), item(3, 1, 2), item(4, 1, 2))
	swaps := list(swap(2, 1, 1, 1), swap(3, 1, 1, 1), swap(4, 1, 1, 1))
	buys(t, call{a: one(3), b: three, swaps: swaps, prices: list(price(2, 1, 5), price(3, 1, 7), price(4, 1, 6))}, 16, list(0, 2, 1), item(2, 1, 2), item(4, 1, 1))
	buys(t, call{a: one(3), b: three, swaps: swaps, prices: list(price(2, 1, 6), price(3, 1, 7), price(4, 1, 5))}, 16, list(1, 2, 0), item(2, 1, 1), item(4, 1, 2))
	// Equal prices: in order.
	buys(t, call{a: one(3), b: three, swaps: swaps, prices: list(price(2, 1, 5), price(3, 1, 5), price(4, 1, 5))}, 15, list(2, 1, 0), item(3, 1, 1), item(4, 1, 2))
	// Those without a price come first, also before the greatest price.
	buys(t, call{a: one(2), b: three, swaps: swaps, prices: list(price(2, 1, 10000), price(3, 1, 9))}, 20018, list(0, 0, 2), item(2, 1, 2), item(3, 1, 2))
	buys(t, call{a: one(4), b: three, swaps: swaps, prices: list(price(3, 1, 10000))}, 20000, list(2, 0, 2), item(3, 1, 2))
	// Nothing is a price, too.
	buys(t, call{a: one(2), b: three, swaps: swaps, prices: list(price(2, 1, 0), price(3, 1, 0), price(4, 1, 1))}, 0, list(0, 0, 2), item(2, 1, 2), item(3, 1, 2))
	buys(t, call{a: one(2), b: three[:2], swaps: swaps, prices: list(price(3, 1, 0))}, 0, list(2, 0), item(3, 1, 2))
	// What the others get is exchanged for one that comes later.
	buys(t, call{a: list(item(1, 1, 1), item(2, 1, 1)), b: list(item(2, 1, 1), item(3, 1, 1)), swaps: list(swap(2, 1, 1, 1), swap(3, 1, 2, 1)), prices: list(price(2, 1, 9))}, 0, list(1, 1))
}

func TestP8_4Substitutes(t *testing.T) {
	needs := list(item(2, 1, 3))
	swaps := list(swap(2, 1, 3, 1), swap(2, 1, 1, 2), swap(2, 1, 1, 1), swap(4, 1, 0, 0), swap(0, 1, 2, 1))
	all := func(a, b, c, d int) []api.Price {
		return list(price(0, 0, 0), price(0, 1, 0), price(1, 1, a), price(1, 2, b), price(2, 1, c), price(3, 1, d), price(4, 1, 0))
	}
	buys(t, call{b: needs, swaps: swaps, prices: all(5, 6, 7, 8)}, 15, list(0), item(1, 1, 3))
	buys(t, call{b: needs, swaps: swaps, prices: all(6, 5, 7, 8)}, 15, list(0), item(1, 2, 3))
	buys(t, call{b: needs, swaps: swaps, prices: all(8, 7, 6, 6)}, 18, list(0), item(2, 1, 3))
	buys(t, call{b: needs, swaps: swaps, prices: all(8, 7, 6, 5)}, 15, list(0), item(3, 1, 3))
	buys(t, call{b: needs, swaps: swaps, prices: all(5, 5, 5, 5)}, 15, list(0), item(1, 1, 3))
	buys(t, call{b: needs, swaps: swaps, prices: all(6, 5, 5, 5)}, 15, list(0), item(1, 2, 3))
	buys(t, call{b: needs, swaps: swaps, prices: list(price(3, 1, 10000))}, 30000, list(0), item(3, 1, 3))
	buyFails(t, call{b: needs, swaps: swaps, prices: list(price(0, 0, 1), price(4, 1, 1))}, api.ErrPrice)
	// Several items may be bought as the same part.
	buys(t, call{b: first(), swaps: others(), prices: list(price(1, 1, 2), price(2, 1, 2))}, 10, list(0, 0), item(1, 1, 5))
	buys(t, call{b: first(), swaps: list(swap(1, 1, 9, 1)), prices: list(price(2, 1, 4), price(9, 1, 3))}, 17, list(0, 0), item(2, 1, 2), item(9, 1, 3))
	buys(t, call{b: first(), swaps: list(swap(1, 1, 9, 1)), prices: list(price(2, 1, 4), price(9, 1, 5))}, 23, list(0, 0), item(2, 1, 2), item(9, 1, 3))
}

// badPrices are lists that are no prices.
func badPrices() [][]api.Price {
	l := [][]api.Price{
		list(price(1, 1, -1)),
		list(price(1, 1, 10001)),
		list(price(-1, 1, 1)),
		list(price(16, 1, 1)),
		list(price(1, 16, 1)),
		list(price(1, 255, 1)),
		list(price(1, 1, 1), price(1, 1, 1)),
		list(price(1, 1, 1), price(1, 1, 2)),
		list(price(1, 2, 1), price(1, 1, 1)),
		list(price(2, 1, 1), price(1, 2, 1)),
		list(price(1, 1, 1), price(2, 1, -1)),
		manyPrices(61),
	}
	for _, n := range extremes {
		l = append(l, list(price(n, 1, 1)), list(price(1, 1, n)))
	}
	return l
}

// manyPrices are the prices of the first n parts.
func manyPrices(n int) []api.Price {
	var l []api.Price
	for i := range n {
		l = append(l, price(i/16, uint8(i%16), 10000))
	}
	return l
}

func TestP8_4Errors(t *testing.T) {
	for _, l := range badPrices() {
		buyFails(t, call{prices: l}, api.ErrArg)
		// Before ErrPrice, also if no price is asked for; and after the errors of stocks and swaps.
		buyFails(t, call{b: list(item(15, 15, 1)), prices: l}, api.ErrArg)
		buyFails(t, call{b: one(0), prices: l}, api.ErrBad)
		buyFails(t, call{a: one(0), prices: l}, api.ErrBad)
	}
	buys(t, call{b: kinds(0, 30, 1000), prices: manyPrices(60)}, 300000000, make([]int, 30), kinds(0, 30, 1000)...)
	buys(t, call{b: list(item(15, 15, 1)), prices: list(price(15, 15, 0))}, 0, list(0), item(15, 15, 1))

	buyFails(t, call{b: one(1)}, api.ErrPrice)
	buyFails(t, call{a: one(4), b: first(), swaps: others(), prices: list(price(3, 1, 1))}, api.ErrPrice)
	buyFails(t, call{a: one(2), b: first(), prices: list(price(2, 1, 1))}, api.ErrPrice)

	most := list(item(1, 1, 1000), item(2, 1, 1))
	prices := list(price(1, 1, 0))
	buyFails(t, call{b: most, swaps: others(), prices: prices}, api.ErrMany)
	buys(t, call{a: one(1), b: most, swaps: others(), prices: prices}, 0, list(1, 0), item(1, 1, 1000))
	buys(t, call{b: most, swaps: others(), prices: list(price(1, 1, 2), price(2, 1, 1))}, 2001, list(0, 0), item(1, 1, 1000), item(2, 1, 1))
	// ErrPrice first, whether what has no price is before or after.
	buyFails(t, call{b: append(most, item(3, 1, 1)), swaps: others(), prices: prices}, api.ErrPrice)
	buyFails(t, call{b: slices.Insert(most, 0, item(0, 1, 1)), swaps: others(), prices: prices}, api.ErrPrice)
	buyFails(t, call{a: list(item(3, 1, 1)), b: append(most, item(3, 1, 1)), swaps: others(), prices: prices}, api.ErrMany)
}

// randomPurchase returns a box, needs, swaps and prices.
func randomPurchase(r *rand.Rand, parts int) call {
	return call{a: randomItems(r, parts), b: randomItems(r, parts), swaps: randomSwaps(r), prices: randomPrices(r, 2+r.Intn(9))}
}

func TestP8_4AnyBill(t *testing.T) {
	r := rand.New(rand.NewSource(21))
	errors := map[api.Errno]int{}
	for i := range 3000 {
		c := randomPurchase(r, 5)
		if i%4 == 0 {
			c.b = randomItems(r, 1000)
		}
		want, e := wantBill(c.a, c.b, c.swaps, c.prices)
		if errors[e]++; e != api.OK {
			buyFails(t, c, e)
			continue
		}
		buys(t, c, want.Cost, want.Filled, want.Buy...)
	}
	if errors[api.OK] < 1000 || errors[api.ErrPrice] < 200 || errors[api.ErrMany] < 20 {
		t.Error(errors)
	}
}

// counted returns all lists of counts that can be filled.
func counted(c call) [][]int {
	all := [][]int{nil}
	for _, x := range c.b {
		var longer [][]int
		for _, l := range all {
			for n := range x.N + 1 {
				longer = append(longer, append(slices.Clone(l), n))
			}
		}
		all = longer
	}
	return slices.DeleteFunc(all, func(l []int) bool { return !wantCan(c.a, c.b, c.swaps, l) })
}

// All fillings are tried: none leaves less to pay, and if something without a price would have to be bought, each of them misses such a part.
func TestP8_9Cheapest(t *testing.T) {
	r := rand.New(rand.NewSource(22))
	dearer, none := 0, 0
	for range 1000 {
		c := randomPurchase(r, 3)
		c.b = c.b[:min(len(c.b), 4)]
		least := -1
		for _, l := range counted(c) {
			cost := 0
			for i, x := range c.b {
				cents, _ := wantOffer(x, c.swaps, c.prices)
				if n := x.N - l[i]; n > 0 && cents < 0 {
					cost = -1
					break
				} else {
					cost += n * max(0, cents)
				}
			}
			if cost >= 0 && (least < 0 || cost < least) {
				least = cost
			}
			if cost > least {
				dearer++
			}
		}
		bill, e := box.Buy(c.a, c.b, c.swaps, c.prices)
		if least < 0 {
			none++
			wantErr(t, c, e, api.ErrPrice)
		} else if e != api.OK || bill.Cost != least {
			t.Error(c, bill, least, e)
		}
	}
	if dearer < 1000 || none < 100 {
		t.Error(dearer, none)
	}
}

// What is filled can be filled; with what is bought, all needs can be.
func TestP8_9Filled(t *testing.T) {
	r := rand.New(rand.NewSource(23))
	bought := 0
	for range 3000 {
		c := randomPurchase(r, 1+r.Intn(300))
		bill, e := box.Buy(c.a, c.b, c.swaps, c.prices)
		if e != api.OK {
			continue
		}
		f, _ := box.Fill(c.a, c.b, c.swaps)
		if sum(bill.Filled...) != f.Total {
			t.Error(c, bill, f)
		}
		usesOf(t, c.a, c.b, c.swaps, bill.Filled, api.OK)
		wantErr(t, bill, box.Check(bill.Buy), api.OK)
		if more, e := box.Add(c.a, bill.Buy); e == api.OK {
			usesOf(t, more, c.b, c.swaps, numbers(c.b), api.OK)
			bought++
		}
		cost := 0
		for _, x := range bill.Buy {
			i := slices.IndexFunc(c.prices, func(p api.Price) bool { return p.Kind == x.Kind && p.Color == x.Color })
			cost += x.N * c.prices[i].Cents
		}
		if cost != bill.Cost {
			t.Error(c, bill, cost)
		}
	}
	if bought < 1000 {
		t.Error(bought)
	}
}

// The order of swaps, and how often one is there, changes nothing.
func TestP8_4SwapsInAnyOrder(t *testing.T) {
	r := rand.New(rand.NewSource(24))
	for range 1000 {
		c := randomPurchase(r, 5)
		d := c
		d.swaps = slices.Concat(c.swaps, c.swaps, c.swaps)
		r.Shuffle(len(d.swaps), func(i, j int) { d.swaps[i], d.swaps[j] = d.swaps[j], d.swaps[i] })
		bill, e := box.Buy(c.a, c.b, c.swaps, c.prices)
		other, e2 := box.Buy(d.a, d.b, d.swaps, d.prices)
		if e != e2 || !reflect.DeepEqual(bill, other) {
			t.Error(c, bill, other, e, e2)
		}
	}
}
