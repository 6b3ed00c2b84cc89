package text_test

import (
	"math/rand"
	"strings"
	"testing"

	"studwork/api"
	"studwork/text"
)

func TestP2_4Inline(t *testing.T) {
	d, e := text.Inline(car(), 1)
	wantErr(t, "car", e, api.OK)
	wantDoc(t, "car", d, doc(sub("car", line(2, 1, 0, 0, 1, 4), line(3, 0, 2, 0, 0, 7), line(2, 5, 1, 0, 2, 0), line(3, 3, 0, 0, 1, 7))))
	// Uses are placed like bricks, in all sub-models, and later indices are one less.
	d, e = text.Inline(doc(
		sub("a", use(3, 1, 0, 0, 0, 0), use(2, 10, 20, 30, 4, 6), use(1, 0, 0, 0, 0, 0), use(4, 0, 0, 1, 0, 0)),
		sub("b", use(2, 0, 0, 0, 1, 0), line(1, 1, 1, 1, 1, 1)),
		sub("c", use(3, 1, 2, 3, 1, 0), line(5, 0, 0, 1, 0, 2), use(4, 0, 0, 0, 0, 9)),
		sub("d", use(4, 7, 7, 7, 7, 7)),
		sub("e", line(4, 0, 0, 0, 0, 0)),
	), 2)
	wantErr(t, "five", e, api.OK)
	wantDoc(t, "five", d, doc(
		sub("a", use(2, 1, 0, 0, 0, 0), use(2, 11, 17, 32, 5, 6), line(5, 10, 19, 30, 4, 2), use(3, 10, 20, 30, 4, 9), use(1, 0, 0, 0, 0, 0), use(3, 0, 0, 1, 0, 0)),
		sub("b", use(2, -2, 1, 3, 2, 0), line(5, 0, 0, 1, 1, 2), use(3, 0, 0, 0, 1, 9), line(1, 1, 1, 1, 1, 1)),
		sub("d", use(3, 7, 7, 7, 7, 7)),
		sub("e", line(4, 0, 0, 0, 0, 0)),
	))
}

func TestP2_4Errors(t *testing.T) {
	for _, i := range append([]int{0, -1, 6, 7, 8}, extremes...) {
		if d, e := text.Inline(tree(), i); e != api.ErrArg || d.Subs != nil {
			t.Error(i, d, e)
		}
	}
	if _, e := text.Inline(doc(sub("a")), 0); e != api.ErrArg {
		t.Error(e)
	}
	// 20 lines are not too many, 21 are, in any sub-model but the one that is left out; 20 uses of nothing are none.
	twenty := times(20, line(0, 0, 0, 0, 0, 0))
	full := doc(sub("a", append(times(4, use(1, 0, 0, 0, 0, 0)), line(1, 0, 0, 0, 0, 0))...), sub("b", times(4, use(2, 0, 0, 0, 0, 0))...), sub("c", twenty[:4]...))
	if _, e := text.Inline(full, 1); e != api.OK {
		t.Error(e)
	}
	full.Subs[1].Lines = append(full.Subs[1].Lines, use(2, 0, 0, 0, 0, 0))
	if d, e := text.Inline(full, 1); e != api.ErrMany || d.Subs != nil {
		t.Error(d, e)
	}
	if d, e := text.Inline(full, 2); e != api.OK || len(d.Subs[1].Lines) != 20 {
		t.Error(d, e)
	}
	full.Subs[2].Lines = twenty[:5]
	if _, e := text.Inline(full, 2); e != api.ErrMany {
		t.Error(e)
	}
	if d, e := text.Inline(chain(2, 20), 1); e != api.OK || len(d.Subs) != 1 || len(d.Subs[0].Lines) != 0 {
		t.Error(d, e)
	}
	if d, e := text.Inline(chain(2, 1, twenty...), 1); e != api.OK || len(d.Subs[0].Lines) != 20 {
		t.Error(d, e)
	}
	if d, e := text.Inline(doc(sub("a"), sub("b", twenty...)), 1); e != api.OK || !sameDocs(d, doc(sub("a"))) {
		t.Error(d, e)
	}
}

func TestP2_4Places(t *testing.T) {
	for _, x := range []struct {
		l api.Line
		e api.Errno
	}{
		{line(0, 1, 0, 0, 0, 0), api.OK}, {line(0, 2, 0, 0, 0, 0), api.ErrBrick}, {use(3, 1, 0, 0, 0, 0), api.OK}, {use(3, 2, 0, 0, 0, 0), api.ErrBrick},
		{line(0, 0, 1, 0, 0, 0), api.ErrBrick}, {line(0, 0, 0, -1, 0, 0), api.ErrBrick}, {line(0, 0, -1, 1, 0, 0), api.OK}, {line(0, -1000, -1000, 1000, 0, 0), api.OK},
	} {
		// No brick is there at all: lines are enough. The places are those of a sub-model that is not the main one.
		d := doc(sub("a"), sub("b", use(2, 999, 1000, -1000, 0, 0)), sub("c", x.l), sub("d"))
		got, e := text.Inline(d, 2)
		wantErr(t, x, e, x.e)
		if (e == api.OK) != (len(got.Subs) == 3) {
			t.Error(x, got)
		}
	}
	// ErrMany comes before ErrBrick, also if it is of a later sub-model.
	d := doc(sub("a", use(2, 1000, 0, 0, 0, 0)), sub("b", times(11, use(2, 0, 0, 0, 0, 0))...), sub("c", line(0, 1, 0, 0, 0, 0), line(0, 1, 0, 0, 0, 0)))
	_, e := text.Inline(d, 2)
	wantErr(t, "both", e, api.ErrMany)
	d.Subs[1].Lines = d.Subs[1].Lines[1:]
	_, e = text.Inline(d, 2)
	wantErr(t, "places", e, api.ErrBrick)
}

// wantInline follows the words of the chapter.
func wantInline(d api.Doc, out int) (api.Doc, api.Errno) {
	var r api.Doc
	many, far := false, false
	for i, s := range d.Subs {
		if i == out {
			continue
		}
		var all []api.Line
		for _, l := range s.Lines {
			if l.Sub == out {
				for _, x := range d.Subs[out].Lines {
					all = append(all, api.Line{Sub: x.Sub, Brick: wantPlaced(x.Brick, l.Brick)})
				}
			} else {
				all = append(all, l)
			}
		}
		for j := range all {
			if all[j].Sub > out {
				all[j].Sub--
			}
			far = far || !inRange(all[j].Brick.At)
		}
		many = many || len(all) > 20
		r.Subs = append(r.Subs, api.Sub{Name: s.Name, Lines: all})
	}
	if many {
		return api.Doc{}, api.ErrMany
	}
	if far {
		return api.Doc{}, api.ErrBrick
	}
	return r, api.OK
}

func TestP2_4AgainstTheWords(t *testing.T) {
	r := rand.New(rand.NewSource(21))
	found := map[api.Errno]int{}
	for range 3000 {
		d := randomDoc(r, 1+r.Intn(1000), 1+r.Intn(10))
		if len(d.Subs) == 1 {
			continue
		}
		out := 1 + r.Intn(len(d.Subs)-1)
		got, e := text.Inline(d, out)
		want, f := wantInline(d, out)
		found[f]++
		wantErr(t, d, e, f)
		wantDoc(t, d, got, want)
	}
	if found[api.OK] < 500 || found[api.ErrMany] < 100 || found[api.ErrBrick] < 100 {
		t.Error("too few of one sort:", found)
	}
}

func TestP2_5Prune(t *testing.T) {
	d, e := text.Prune(tree())
	wantErr(t, "tree", e, api.OK)
	wantDoc(t, "tree", d, doc(
		sub("top", line(1, 1, 2, 3, 4, 5), use(2, 9, 8, 7, 6, 0), use(1, -1, -2, -3, 20, 2), line(0, 0, 0, 0, 0, 0)),
		sub("mid", use(2, 10, 0, 0, 5, 0), line(4, 0, 0, 6, 23, 0), use(2, 0, 10, 0, 9, 8), use(3, 0, 0, 0, 0, 1)),
		sub("leaf", line(2, 1, 0, 0, 1, 0), line(2, 0, 1, 0, 0, 3)),
		sub("none"),
	))
	for _, d := range []api.Doc{car(), chain(8, 1, line(0, 0, 0, 0, 0, 0)), doc(sub("a"))} {
		p, e := text.Prune(d)
		wantErr(t, d, e, api.OK)
		wantDoc(t, d, p, d)
	}
	p, e := text.Prune(doc(sub("a", line(0, 0, 0, 0, 0, 0)), sub("b", use(2, 0, 0, 0, 0, 0)), sub("c")))
	wantErr(t, "only the first", e, api.OK)
	wantDoc(t, "only the first", p, doc(sub("a", line(0, 0, 0, 0, 0, 0))))
}

// What is left of a document is what the main sub-model uses, and nothing else is left out.
func TestP2_5PruneAgainstTheWords(t *testing.T) {
	r := rand.New(rand.NewSource(22))
	for range 1000 {
		d := randomDoc(r, 10, 2)
		used := map[int]bool{0: true}
		for range d.Subs {
			for i, s := range d.Subs {
				for _, l := range s.Lines {
					if used[i] && l.Sub >= 0 {
						used[l.Sub] = true
					}
				}
			}
		}
		var want api.Doc
		index := map[int]int{-1: -1}
		for i, s := range copyDoc(d).Subs {
			if used[i] {
				index[i] = len(want.Subs)
				want.Subs = append(want.Subs, s)
			}
		}
		for _, s := range want.Subs {
			for i := range s.Lines {
				s.Lines[i].Sub = index[s.Lines[i].Sub]
			}
		}
		got, e := text.Prune(d)
		wantErr(t, d, e, api.OK)
		wantDoc(t, d, got, want)
	}
}

func TestP2_5Rename(t *testing.T) {
	for i := range 6 {
		for _, name := range []string{"a", "z", "a0-9", "abcdefghijkl", tree().Subs[i].Name} {
			want := tree()
			want.Subs[i].Name = name
			got, e := text.Rename(tree(), i, name)
			wantErr(t, name, e, api.OK)
			wantDoc(t, name, got, want)
		}
		bad := append(badNames(), tree().Subs[(i+1)%6].Name, tree().Subs[(i+5)%6].Name, strings.Repeat("a", 100000))
		for _, name := range bad {
			if d, e := text.Rename(tree(), i, name); e != api.ErrName || d.Subs != nil {
				t.Errorf("%d %.20q: %v %d", i, name, d, e)
			}
		}
	}
	for _, i := range append([]int{-1, 6, 7, 8}, extremes...) {
		for _, name := range []string{"new", "top", "No name"} {
			if d, e := text.Rename(tree(), i, name); e != api.ErrArg || d.Subs != nil {
				t.Error(i, name, d, e)
			}
		}
	}
}

func TestP2_7NothingChanges(t *testing.T) {
	r := rand.New(rand.NewSource(23))
	inlined := 0
	for range 3000 {
		d := randomDoc(r, 1+r.Intn(500), 4)
		i := r.Intn(len(d.Subs))
		results := map[string]result{
			"Inline": of(text.Inline(d, i)),
			"Prune":  of(text.Prune(d)),
			"Rename": of(text.Rename(d, i, "new-name")),
		}
		m, e := text.Flatten(d)
		items, _ := text.Count(d)
		for name, x := range results {
			if name == "Inline" && x.e != api.OK {
				continue
			}
			wantErr(t, name, x.e, api.OK)
			if name == "Inline" && len(m.Bricks) > 0 {
				inlined++
			}
			c := x.value.(api.Doc)
			wantErr(t, name, text.Check(c), api.OK)
			again, f := text.Flatten(c)
			wantErr(t, name, f, e)
			same(t, name, again.Bricks, m.Bricks)
			wantItems(t, c, items)
		}
	}
	if inlined < 200 {
		t.Error("only", inlined, "were inlined")
	}
}
