package studio

import (
	"slices"
	"strings"

	"studwork/api"
	"studwork/lattice"
	"studwork/text"
)

// modelOf returns the model of a document, or why it is not accepted.
func modelOf(kinds []api.Kind, doc api.Doc) (api.Model, api.Errno) {
	m, e := text.Flatten(doc)
	if e != api.OK {
		return api.Model{}, e
	}
	if e := lattice.Check(kinds, m); e != api.OK {
		return api.Model{}, e
	}
	return m, api.OK
}

// copyOfDoc returns a document in memory of its own.
func copyOfDoc(doc api.Doc) api.Doc {
	var c api.Doc
	for _, s := range doc.Subs {
		c.Subs = append(c.Subs, api.Sub{Name: strings.Clone(s.Name), Lines: slices.Clone(s.Lines)})
	}
	return c
}

// exchange returns a list with others in place of some things: those from an index on, up to the end that is given.
func exchange[T any](l []T, from, end int, by ...T) []T {
	return slices.Concat(l[:from], by, l[end:])
}

// find returns what has an index in a list, and ErrNone if there is nothing.
func find[T any](l []T, i int) (T, api.Errno) {
	if !within(i, 0, len(l)-1) {
		var none T
		return none, api.ErrNone
	}
	return l[i], api.OK
}

// accept makes a document the last one, and returns its index.
func (d *desk) accept(doc api.Doc) api.Done {
	n := len(d.Docs)
	if n == api.MaxDocs {
		return failed(api.ErrFull)
	}
	if _, e := modelOf(d.Kinds, doc); e != api.OK {
		return failed(e)
	}
	d.Docs = exchange(d.Docs, n, n, doc)
	return api.Done{N: n}
}

func (d *desk) load(j api.Job) api.Done {
	doc, line, e := text.Read(j.Text)
	if e != api.OK {
		return api.Done{E: e, N: line}
	}
	return d.accept(doc)
}

func (d *desk) write(j api.Job) api.Done {
	doc, e := find(d.Docs, j.N)
	if e != api.OK {
		return failed(e)
	}
	s, e := text.Write(doc)
	return api.Done{E: e, Text: s}
}

func (d *desk) inline(j api.Job) api.Done {
	doc, e := find(d.Docs, j.N)
	if e != api.OK {
		return failed(e)
	}
	if doc, e = text.Inline(doc, j.M); e != api.OK {
		return failed(e)
	}
	d.Docs = exchange(d.Docs, j.N, j.N+1, doc)
	return api.Done{N: len(doc.Subs)}
}

func (d *desk) drop(j api.Job) api.Done {
	if _, e := find(d.Docs, j.N); e != api.OK {
		return failed(e)
	}
	d.Docs = exchange(d.Docs, j.N, j.N+1)
	return api.Done{N: len(d.Docs)}
}
