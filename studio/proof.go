package studio

import (
	"studwork/api"
	"studwork/lattice"
	"studwork/stand"
	"studwork/steps"
)

// onTable returns the model of a document, and the rest with which it is tested and explained.
func (d *desk) onTable(n int) (api.Model, api.Rest, api.Errno) {
	doc, e := find(d.Docs, n)
	if e != api.OK {
		return api.Model{}, api.Rest{}, e
	}
	m, e := modelOf(d.Kinds, doc)
	if e != api.OK {
		return api.Model{}, api.Rest{}, e
	}
	bounds, e := lattice.Bounds(d.Kinds, m)
	return m, api.Rest{Table: bounds.Lo.Z}, e
}

// test tells which bricks of a document fall.
func (d *desk) test(j api.Job) api.Done {
	m, r, e := d.onTable(j.N)
	if e != api.OK {
		return failed(e)
	}
	fall, e := stand.Falling(d.Kinds, m, r)
	return api.Done{E: e, List: fall}
}

// guide explains a document in steps.
func (d *desk) guide(j api.Job) api.Done {
	m, r, e := d.onTable(j.N)
	if e != api.OK {
		return failed(e)
	}
	l, e := steps.Find(d.Kinds, m, r, j.M)
	return api.Done{E: e, N: len(l), Steps: l}
}
