package box

import (
	"cmp"
	"slices"

	"studwork/api"
)

// noPrice stands for the price of a needed part that has none, since such parts come first in a bill.
const noPrice = api.MaxCents + 1

// offer is the part as which a needed one is bought, and its price.
type offer struct {
	part
	cents int
}

// arePrices tells whether a list of prices is one.
func arePrices(l []api.Price) bool {
	if len(l) > api.MaxPrices || !inOrder(l, pricePart) {
		return false
	}
	for _, p := range l {
		if !within(p.Cents, 0, api.MaxCents) {
			return false
		}
	}
	return true
}

// offers returns for each item of the needs how it is bought.
func offers(needs []api.Item, swaps []api.Swap, prices []api.Price) []offer {
	cents := map[part]int{}
	for _, p := range prices {
		cents[pricePart(p)] = p.Cents
	}
	var l []offer
	for _, x := range needs {
		best := offer{cents: noPrice}
		for _, p := range fillers(itemPart(x), swaps) {
			if n, ok := cents[p]; ok && n < best.cents {
				best = offer{p, n}
			}
		}
		l = append(l, best)
	}
	return l
}

// dearest returns the indices of some offers, those with the greatest prices first.
func dearest(l []offer) []int {
	var order []int
	for i := range l {
		order = append(order, i)
	}
	slices.SortStableFunc(order, func(i, j int) int { return cmp.Compare(l[j].cents, l[i].cents) })
	return order
}

// Buy returns the bill (P8.4).
func Buy(box, needs []api.Item, swaps []api.Swap, prices []api.Price) (api.Bill, api.Errno) {
	f, e := emptyFilling(box, needs, swaps)
	if e != api.OK {
		return api.Bill{}, e
	}
	if !arePrices(prices) {
		return api.Bill{}, api.ErrArg
	}
	l := offers(needs, swaps, prices)
	for _, i := range dearest(l) {
		f.give(i, needs[i].N)
	}
	return f.bill(l)
}

// bill returns the bill of a filling, for which everything that is missing is bought as it is offered.
func (f *filling) bill(l []offer) (api.Bill, api.Errno) {
	cost := 0
	var items []api.Item
	for i, o := range l {
		n := f.missing(i)
		if n == 0 {
			continue
		}
		if o.cents == noPrice {
			return api.Bill{}, api.ErrPrice
		}
		cost += n * o.cents
		items = append(items, api.Item{Kind: o.kind, Color: o.color, N: n})
	}
	stock, e := gather(items)
	if e != api.OK {
		return api.Bill{}, e
	}
	return api.Bill{Filled: f.got, Buy: stock, Cost: cost}, api.OK
}
