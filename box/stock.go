package box

import (
	"slices"

	"studwork/api"
)

// Check returns ErrBad unless a list of items is a stock (P8.1).
func Check(l []api.Item) api.Errno {
	if len(l) > api.MaxItems || !inOrder(l, itemPart) {
		return api.ErrBad
	}
	for _, x := range l {
		if !within(x.N, 1, api.MaxStock) {
			return api.ErrBad
		}
	}
	return api.OK
}

func checkAll(stocks ...[]api.Item) api.Errno {
	for _, l := range stocks {
		if e := Check(l); e != api.OK {
			return e
		}
	}
	return api.OK
}

// Add returns the stock that has the sums of two stocks (P8.1).
func Add(a, b []api.Item) ([]api.Item, api.Errno) {
	if e := checkAll(a, b); e != api.OK {
		return nil, e
	}
	return gather(slices.Concat(a, b))
}

// gather returns the stock of some items with numbers from 1 on, of which it changes the order. ErrMany is all that can be wrong with it.
func gather(l []api.Item) ([]api.Item, api.Errno) {
	putInOrder(l, itemPart)
	var stock []api.Item
	for _, x := range l {
		if last := len(stock) - 1; last >= 0 && itemPart(stock[last]) == itemPart(x) {
			stock[last].N += x.N
		} else {
			stock = append(stock, x)
		}
	}
	if Check(stock) != api.OK {
		return nil, api.ErrMany
	}
	return stock, api.OK
}

// Take returns what is left of a stock (P8.1).
func Take(a, b []api.Item) ([]api.Item, api.Errno) {
	if e := checkAll(a, b); e != api.OK {
		return nil, e
	}
	left, ok := rest(a, b)
	if !ok {
		return nil, api.ErrNone
	}
	return left, api.OK
}

// rest returns what is left of a stock without another one, and false unless that is within it.
func rest(stock, other []api.Item) ([]api.Item, bool) {
	var left []api.Item
	for _, x := range stock {
		if len(other) > 0 && itemPart(other[0]) == itemPart(x) {
			x.N -= other[0].N
			other = other[1:]
		}
		if x.N < 0 {
			return nil, false
		}
		if x.N > 0 {
			left = append(left, x)
		}
	}
	return left, len(other) == 0
}
