package studio_test

import (
	"testing"

	"studwork/api"
)

// withStock returns a studio with documents, and parts.
func withStock(stock []api.Item, l ...string) api.Studio {
	s := withDocs(l...)
	s.Stock = stock
	return s
}

func TestP10_2Stock(t *testing.T) {
	l := list(item(0, 3, 5), item(1, 3, 2))
	wantAfter(t, withStock(nil), store(l...), withStock(l), api.Done{Items: l})
	more := list(item(0, 0, 1), item(0, 3, 1000), item(1, 3, 2), item(3, 15, 7))
	wantAfter(t, withStock(l), store(item(0, 0, 1), item(0, 3, 995), item(3, 15, 7)), withStock(more), api.Done{Items: more})
	wantKept(t, withStock(l), store(), api.Done{Items: l})
	wantKept(t, withStock(nil), store(), api.Done{})
	wantKept(t, api.Studio{}, store(), api.Done{})
	wantAfter(t, withStock(items(0, 29, 1)), store(item(3, 0, 1)), withStock(append(items(0, 29, 1), item(3, 0, 1))), api.Done{Items: append(items(0, 29, 1), item(3, 0, 1))})
	wantAfter(t, withStock(items(0, 15, 500)), store(items(15, 15, 1000)...), withStock(append(items(0, 15, 500), items(15, 15, 1000)...)), api.Done{Items: append(items(0, 15, 500), items(15, 15, 1000)...)})
}

func TestP10_2StockErrors(t *testing.T) {
	s := api.Studio{Kinds: few(), Stock: items(0, 30, 1000)}
	for _, l := range badStocks() {
		wantFails(t, s, store(l...), api.ErrBad)
	}
	wantFails(t, api.Studio{}, store(item(0, 0, 1)), api.ErrBad)
	wantFails(t, s, store(item(0, 0, 1)), api.ErrMany)
	wantFails(t, s, store(item(1, 15, 1)), api.ErrMany)
	wantFails(t, withStock(items(0, 15, 1)), store(items(15, 16, 1)...), api.ErrMany)
	wantFails(t, withStock(items(0, 15, 1)), store(items(0, 15, 1000)...), api.ErrMany)
}

func TestP10_2Build(t *testing.T) {
	needs := list(item(0, 3, 1), item(1, 3, 1))
	wantAfter(t, withStock(needs, pair), build(0), withStock(nil, pair), api.Done{Items: needs})
	wantAfter(t, withStock(list(item(0, 2, 9), item(0, 3, 2), item(1, 3, 1)), air, pair), build(1),
		withStock(list(item(0, 2, 9), item(0, 3, 1)), air, pair), api.Done{Items: needs})
	wantKept(t, withStock(needs, empty), build(0), api.Done{})
	wantKept(t, withStock(nil, empty), build(0), api.Done{})
	// Uses of sub-models, their colours, and the colour 0.
	step := list(item(0, 4, 2), item(1, 0, 1), item(1, 3, 1))
	wantAfter(t, withStock(step, stairs), build(0), withStock(nil, stairs), api.Done{Items: step})
	wantAfter(t, withStock(list(item(0, 3, 41)), tower(40)), build(0), withStock(list(item(0, 3, 1)), tower(40)), api.Done{Items: list(item(0, 3, 40))})
	// What is in a sub-model that is not used is not needed.
	wantAfter(t, withStock(list(item(0, 3, 1)), spare), build(0), withStock(nil, spare), api.Done{Items: list(item(0, 3, 1))})
	wantAfter(t, withStock(items(0, 30, 1), motley(30)), build(0), withStock(nil, motley(30)), api.Done{Items: items(0, 30, 1)})
}

func TestP10_2BuildErrors(t *testing.T) {
	for _, l := range [][]api.Item{
		nil,
		list(item(0, 3, 1)),
		list(item(1, 3, 1)),
		list(item(0, 3, 1), item(1, 2, 9)),
		list(item(0, 3, 1), item(3, 3, 9)),
	} {
		wantFails(t, withStock(l, pair), build(0), api.ErrNone)
	}
	wantFails(t, withStock(list(item(0, 3, 39)), tower(40)), build(0), api.ErrNone)
	wantFails(t, withStock(items(0, 29, 1000), motley(30)), build(0), api.ErrNone)
	wantFails(t, withStock(items(0, 30, 1000), motley(31)), build(0), api.ErrMany)
	wantFails(t, withStock(nil, motley(31)), build(0), api.ErrMany)
}

// paid returns a studio that has spent so much already.
func paid(s api.Studio, cents int) api.Studio {
	s.Spent += cents
	return s
}

func TestP10_2Buy(t *testing.T) {
	needs := list(item(0, 3, 1), item(1, 3, 1))
	wantAfter(t, withStock(nil, pair), buy(0), paid(withStock(needs, pair), 25), api.Done{N: 25, Items: needs})
	wantAfter(t, paid(withStock(list(item(0, 2, 7), item(0, 3, 4)), air, pair), 90), buy(1),
		paid(withStock(list(item(0, 2, 7), item(0, 3, 4), item(1, 3, 1)), air, pair), 105), api.Done{N: 15, Items: needs[1:]})
	// What is there is bought no more, and costs nothing; it needs no price.
	wantKept(t, withStock(needs, pair), buy(0), api.Done{})
	wantKept(t, withStock(needs, empty), buy(0), api.Done{})
	wantAfter(t, withStock(list(item(0, 3, 33)), tower(40)), buy(0), paid(withStock(list(item(0, 3, 40)), tower(40)), 70), api.Done{N: 70, Items: list(item(0, 3, 7))})
	s := withStock(list(item(1, 3, 1)), pair)
	s.Prices = s.Prices[:1]
	after := paid(withStock(needs, pair), 10)
	after.Prices = s.Prices
	wantAfter(t, s, buy(0), after, api.Done{N: 10, Items: needs[:1]})
	s = withStock(nil, pair)
	s.Prices = list(price(0, 3, 10000), price(1, 3, 0))
	after = paid(withStock(needs, pair), 10000)
	after.Prices = s.Prices
	wantAfter(t, s, buy(0), after, api.Done{N: 10000, Items: needs})
}

func TestP10_2BuyErrors(t *testing.T) {
	s := withStock(nil, motley(31), pair)
	wantFails(t, s, buy(0), api.ErrMany)
	for _, l := range [][]api.Price{nil, prices()[:1], prices()[1:], list(price(0, 2, 1), price(1, 3, 1)), list(price(0, 3, 1), price(1, 0, 1))} {
		s.Prices = l
		wantFails(t, s, buy(1), api.ErrPrice)
		wantFails(t, paid(s, 1<<40), buy(1), api.ErrPrice)
		wantFails(t, s, buy(0), api.ErrMany)
	}
	// The stock would have too many items.
	wantFails(t, withStock(items(20, 30, 1), pair), buy(0), api.ErrMany)
	wantFails(t, withStock(items(20, 29, 1), pair), buy(0), api.ErrMany)
	needs := list(item(0, 3, 1), item(1, 3, 1))
	wantAfter(t, withStock(items(20, 28, 1), pair), buy(0), paid(withStock(append(needs, items(20, 28, 1)...), pair), 25), api.Done{N: 25, Items: needs})
}

// Spent may be MaxSpent, but not more.
func TestP10_2BuyFull(t *testing.T) {
	needs := list(item(0, 3, 1), item(1, 3, 1))
	for _, left := range []int{0, 1, 24} {
		wantFails(t, paid(withStock(nil, pair), 1<<40-left), buy(0), api.ErrFull)
		wantFails(t, paid(withStock(items(20, 30, 1), pair), 1<<40-left), buy(0), api.ErrFull)
	}
	for _, left := range []int{25, 26} {
		wantAfter(t, paid(withStock(nil, pair), 1<<40-left), buy(0), paid(withStock(needs, pair), 1<<40-left+25), api.Done{N: 25, Items: needs})
		wantFails(t, paid(withStock(items(20, 30, 1), pair), 1<<40-left), buy(0), api.ErrMany)
	}
	wantKept(t, paid(withStock(needs, pair), 1<<40), buy(0), api.Done{})
}
