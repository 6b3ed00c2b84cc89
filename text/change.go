package text

import (
	"strings"

	"studwork/api"
)

// Inline returns the document without a sub-model: its lines are where it was used.
func Inline(d api.Doc, sub int) (api.Doc, api.Errno) {
	if e := Check(d); e != api.OK {
		return api.Doc{}, e
	}
	if !within(sub, 1, len(d.Subs)-1) {
		return api.Doc{}, api.ErrArg
	}
	var whole api.Doc
	for _, s := range d.Subs {
		whole.Subs = append(whole.Subs, api.Sub{Name: s.Name, Lines: inlined(s.Lines, sub, d.Subs[sub].Lines)})
	}
	for _, s := range whole.Subs {
		if len(s.Lines) > api.MaxLines {
			return api.Doc{}, api.ErrMany
		}
	}
	for _, s := range whole.Subs {
		for _, l := range s.Lines {
			if !isPlace(l.Brick.At) {
				return api.Doc{}, api.ErrBrick
			}
		}
	}
	return keep(whole, func(i int) bool { return i != sub }), api.OK
}

// inlined returns lines in which each use of a sub-model is replaced by its lines.
func inlined(lines []api.Line, sub int, by []api.Line) []api.Line {
	var all []api.Line
	for _, l := range lines {
		if l.Sub != sub {
			all = append(all, l)
			continue
		}
		for _, x := range by {
			all = append(all, api.Line{Sub: x.Sub, Brick: placed(x.Brick, l.Brick)})
		}
	}
	return all
}

// keep returns a document with some of its sub-models, which use none of the others.
func keep(d api.Doc, kept func(i int) bool) api.Doc {
	index := make([]int, len(d.Subs))
	var r api.Doc
	for i, s := range d.Subs {
		if kept(i) {
			index[i] = len(r.Subs)
			r.Subs = append(r.Subs, subOf(s.Name, s.Lines))
		}
	}
	for _, s := range r.Subs {
		for i, l := range s.Lines {
			if !isBrick(l) {
				s.Lines[i].Sub = index[l.Sub]
			}
		}
	}
	return r
}

// Prune returns the document without the sub-models that are not used.
func Prune(d api.Doc) (api.Doc, api.Errno) {
	if e := Check(d); e != api.OK {
		return api.Doc{}, e
	}
	used := usedOf(d)
	return keep(d, func(i int) bool { return used[i] }), api.OK
}

// usedOf tells for each sub-model whether it is the main one, or is used by it, directly or by others.
func usedOf(d api.Doc) []bool {
	used := make([]bool, len(d.Subs))
	var visit func(sub int)
	visit = func(sub int) {
		if used[sub] {
			return
		}
		used[sub] = true
		for _, l := range d.Subs[sub].Lines {
			if !isBrick(l) {
				visit(l.Sub)
			}
		}
	}
	visit(0)
	return used
}

// Rename returns the document in which a sub-model has another name.
func Rename(d api.Doc, sub int, name string) (api.Doc, api.Errno) {
	if e := Check(d); e != api.OK {
		return api.Doc{}, e
	}
	if !within(sub, 0, len(d.Subs)-1) {
		return api.Doc{}, api.ErrArg
	}
	if has := indexOf(d.Subs, name); !isName(name) || has >= 0 && has != sub {
		return api.Doc{}, api.ErrName
	}
	r := keep(d, func(int) bool { return true })
	r.Subs[sub].Name = strings.Clone(name)
	return r, api.OK
}
