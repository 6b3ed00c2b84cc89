package studio

import (
	"slices"

	"studwork/api"
	"studwork/box"
	"studwork/text"
)

// needs returns the needs of a document, if they are a stock.
func (d *desk) needs(n int) ([]api.Item, api.Errno) {
	doc, e := find(d.Docs, n)
	if e != api.OK {
		return nil, e
	}
	l, e := text.Count(doc)
	if e != api.OK {
		return nil, e
	}
	if box.Check(l) != api.OK {
		return nil, api.ErrMany
	}
	return l, api.OK
}

// store puts parts into the stock.
func (d *desk) store(j api.Job) api.Done {
	if !isStock(j.Items, len(d.Kinds)) {
		return failed(api.ErrBad)
	}
	stock, e := box.Add(d.Stock, j.Items)
	if e != api.OK {
		return failed(e)
	}
	d.Stock = stock
	return api.Done{Items: slices.Clone(stock)}
}

// build takes the parts of a document out of the stock.
func (d *desk) build(j api.Job) api.Done {
	needs, e := d.needs(j.N)
	if e != api.OK {
		return failed(e)
	}
	left, e := box.Take(d.Stock, needs)
	if e != api.OK {
		return failed(e)
	}
	d.Stock = left
	return api.Done{Items: needs}
}

// buy puts what the stock lacks for a document into it, and pays.
func (d *desk) buy(j api.Job) api.Done {
	needs, e := d.needs(j.N)
	if e != api.OK {
		return failed(e)
	}
	bill, e := box.Buy(d.Stock, needs, nil, d.Prices)
	if e != api.OK {
		return failed(e)
	}
	if bill.Cost > api.MaxSpent-d.Spent {
		return failed(api.ErrFull)
	}
	stock, e := box.Add(d.Stock, bill.Buy)
	if e != api.OK {
		return failed(e)
	}
	d.Stock = stock
	d.Spent += bill.Cost
	return api.Done{N: bill.Cost, Items: bill.Buy}
}
