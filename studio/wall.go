package studio

import (
	"slices"
	"strings"

	"studwork/api"
	"studwork/compose"
	"studwork/text"
)

// noSub is the Sub of a line that is a brick itself.
const noSub = -1

// compose makes a document of a composition.
func (d *desk) compose(j api.Job) api.Done {
	if !isName(j.Text) {
		return failed(api.ErrName)
	}
	if !d.areUses(j.Uses, len(j.Plates)) {
		return failed(api.ErrArg)
	}
	laid, e := compose.Compose(j.Shape, j.Plates)
	if e != api.OK {
		return failed(e)
	}
	if !d.haveKinds(laid, j.Plates, j.Uses) {
		return failed(api.ErrKind)
	}
	m, e := compose.Model(j.Shape, j.Plates, laid)
	if e != api.OK {
		return failed(e)
	}
	return d.accept(docOf(j.Text, m, j.Uses))
}

// isName asks layer 2, which knows names as those of sub-models.
func isName(s string) bool { return text.Check(api.Doc{Subs: []api.Sub{{Name: s}}}) == api.OK }

// areUses tells whether there are so many uses, each of which is the index of a kind.
func (d *desk) areUses(uses []int, size int) bool {
	return len(uses) == size && !slices.ContainsFunc(uses, func(kind int) bool { return !within(kind, 0, len(d.Kinds)-1) })
}

// haveKinds tells whether the kinds that are used for laid plates are those of these plates.
func (d *desk) haveKinds(laid []api.Laid, plates []api.Plate, uses []int) bool {
	kinds, e := compose.Kinds(plates)
	return e == api.OK && !slices.ContainsFunc(laid, func(x api.Laid) bool {
		return !sameKind(kinds[x.Plate], d.Kinds[uses[x.Plate]])
	})
}

// docOf returns a document of one sub-model: the bricks of a model, each of the kind that is used for its own one.
func docOf(name string, m api.Model, uses []int) api.Doc {
	s := api.Sub{Name: strings.Clone(name)}
	for _, b := range m.Bricks {
		b.Kind = uses[b.Kind]
		s.Lines = append(s.Lines, api.Line{Sub: noSub, Brick: b})
	}
	return api.Doc{Subs: []api.Sub{s}}
}
