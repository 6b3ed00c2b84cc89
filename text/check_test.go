package text_test

import (
	"fmt"
	"math/rand"
	"strings"
	"testing"

	"studwork/api"
	"studwork/text"
)

func TestP2_1ValidDocuments(t *testing.T) {
	many := doc()
	for i := range 8 {
		many.Subs = append(many.Subs, sub(fmt.Sprint("n", i), times(20, line(15, 1000, -1000, 1000, 23, 15))...))
	}
	for i, d := range []api.Doc{
		car(), tree(), many, chain(8, 20, times(20, line(0, 0, 0, 0, 0, 0))...),
		doc(sub("a")), doc(api.Sub{Name: "a", Lines: []api.Line{}}),
		doc(sub("abcdefghijkl")), doc(sub("z0123456789-")), doc(sub("a--"), sub("a-")),
		doc(sub("sub"), sub("end"), sub("brick"), sub("use")),
		doc(sub("a", line(0, -1000, -1000, -1000, 0, 0))),
		doc(sub("a", use(1, 1000, -1000, 1000, 23, 15)), sub("b")),
		doc(sub("a", use(2, 0, 0, 0, 0, 0)), sub("b"), sub("c")),
	} {
		wantErr(t, i, text.Check(d), api.OK)
	}
	r := rand.New(rand.NewSource(1))
	for i := range 300 {
		wantErr(t, i, text.Check(randomDoc(r, 1000, 20)), api.OK)
	}
}

// badNames are no names.
func badNames() []string {
	return []string{
		"", "A", "aB", "1", "1a", "-", "-a", "a b", " a", "a ", "a_", "a.", "a\n", "a\t", "a\r", "a\x00", "\x00", "a`", "a{", "{", "`", "a/", "a:", "a#", "#",
		"abcdefghijklm", strings.Repeat("a", 1000), "é", "aé", "a\u0430", "\u0661", "a\u0661", "a\xff", "\xff", "a\u2010",
	}
}

// badDocs are documents that differ from a valid one in one thing.
func badDocs() map[string]api.Doc {
	bad := map[string]api.Doc{"zero": {}, "empty": {Subs: []api.Sub{}}}
	change := func(name string, how func(d *api.Doc)) {
		d := tree()
		how(&d)
		bad[name] = d
	}
	for i := range 6 {
		for j, name := range badNames() {
			change(fmt.Sprint("name ", i, j), func(d *api.Doc) { d.Subs[i].Name = name })
		}
		change(fmt.Sprint("name twice ", i), func(d *api.Doc) { d.Subs[i].Name = d.Subs[(i+1)%6].Name })
		change(fmt.Sprint("21 lines ", i), func(d *api.Doc) { d.Subs[i].Lines = times(21, line(0, 0, 0, 0, 0, 0)) })
		for _, s := range []int{-2, 0, i, i - 1, 6, 7, extremes[0], extremes[len(extremes)-1]} {
			if s != -1 {
				change(fmt.Sprint("use in ", i, " of ", s), func(d *api.Doc) { d.Subs[i].Lines = append(d.Subs[i].Lines, use(s, 0, 0, 0, 0, 0)) })
			}
		}
	}
	change("9 sub-models", func(d *api.Doc) { d.Subs = append(d.Subs, sub("x"), sub("y"), sub("z")) })
	changeLines(change)
	return bad
}

// changeLines changes a number of each line of the main sub-model: the first and the last one are bricks, the others uses.
func changeLines(change func(name string, how func(d *api.Doc))) {
	for i := range 4 {
		at := func(name string, n any, how func(b *api.Brick)) {
			change(fmt.Sprint("line ", i, " ", name, " ", n), func(d *api.Doc) { how(&d.Subs[0].Lines[i].Brick) })
		}
		for _, n := range extremes {
			at("X", n, func(b *api.Brick) { b.At.X = n })
			at("Y", n, func(b *api.Brick) { b.At.Y = n })
			at("Z", n, func(b *api.Brick) { b.At.Z = n })
			at("kind", n, func(b *api.Brick) { b.Kind = n })
		}
		for _, n := range []int{-1, 16} {
			at("kind", n, func(b *api.Brick) { b.Kind = n })
		}
		for _, n := range []uint8{24, 25, 255} {
			at("turn", n, func(b *api.Brick) { b.Turn = n })
		}
		for _, n := range []uint8{16, 17, 255} {
			at("colour", n, func(b *api.Brick) { b.Color = n })
		}
	}
	for _, i := range []int{1, 2} {
		for _, n := range []int{1, 15} {
			change(fmt.Sprint("use ", i, " with the kind ", n), func(d *api.Doc) { d.Subs[0].Lines[i].Brick.Kind = n })
		}
	}
}

func TestP2_1InvalidDocuments(t *testing.T) {
	for name, d := range badDocs() {
		// Arguments that would be errors as well: ErrBad is the first one.
		for _, i := range []int{-1, 0, 1, 99} {
			for call, r := range callAll(d, i, "No name") {
				wantErr(t, name+": "+call, r.e, api.ErrBad)
				if !isZero(r.value) {
					t.Error(name, call, r.value)
				}
			}
		}
	}
}

func TestP2_1Same(t *testing.T) {
	if !text.Same(tree(), tree()) || !text.Same(api.Doc{}, api.Doc{Subs: []api.Sub{}}) || !text.Same(doc(sub("a")), doc(api.Sub{Name: "a", Lines: []api.Line{}})) {
		t.Error("documents are not the same as themselves")
	}
	others := badDocs()
	change := func(name string, how func(d *api.Doc)) {
		d := tree()
		how(&d)
		others[name] = d
	}
	change("one less", func(d *api.Doc) { d.Subs = d.Subs[:5] })
	change("one more", func(d *api.Doc) { d.Subs = append(d.Subs, sub("x")) })
	change("a line less", func(d *api.Doc) { d.Subs[3].Lines = d.Subs[3].Lines[:1] })
	change("a line more", func(d *api.Doc) { d.Subs[5].Lines = times(1, line(0, 0, 0, 0, 0, 0)) })
	change("swapped", func(d *api.Doc) { d.Subs[0], d.Subs[1] = d.Subs[1], d.Subs[0] })
	change("lines swapped", func(d *api.Doc) { l := d.Subs[3].Lines; l[0], l[1] = l[1], l[0] })
	change("name", func(d *api.Doc) { d.Subs[5].Name = "nine" })
	change("sub", func(d *api.Doc) { d.Subs[0].Lines[1].Sub = 4 })
	change("kind", func(d *api.Doc) { d.Subs[0].Lines[0].Brick.Kind = 2 })
	change("X", func(d *api.Doc) { d.Subs[0].Lines[0].Brick.At.X = 2 })
	change("Y", func(d *api.Doc) { d.Subs[0].Lines[0].Brick.At.Y = 1 })
	change("Z", func(d *api.Doc) { d.Subs[2].Lines[1].Brick.At.Z = 5 })
	change("turn", func(d *api.Doc) { d.Subs[0].Lines[0].Brick.Turn = 3 })
	change("colour", func(d *api.Doc) { d.Subs[3].Lines[1].Brick.Color = 2 })
	for name, d := range others {
		if text.Same(tree(), d) || text.Same(d, tree()) {
			t.Error(name, "is the same")
		}
		if !text.Same(d, copyDoc(d)) {
			t.Error(name, "is not the same as itself")
		}
	}
}

func TestP2_1Write(t *testing.T) {
	if s, e := text.Write(car()); e != api.OK || s != carText {
		t.Errorf("%q %d", s, e)
	}
	s, e := text.Write(doc(sub("a-1", use(2, -1000, 0, 1000, 23, 0), line(15, -10, -1, 7, 9, 15)), sub("b"), sub("end")))
	if want := "sub a-1\nuse end -1000 0 1000 23 0\nbrick 15 -10 -1 7 9 15\nend\nsub b\nend\nsub end\nend\n"; e != api.OK || s != want {
		t.Errorf("%q %d", s, e)
	}
	r := rand.New(rand.NewSource(2))
	for range 300 {
		d := randomDoc(r, 1000, 20)
		if s, e := text.Write(d); e != api.OK || s != wantText(d) {
			t.Fatalf("%v: %q %d", d, s, e)
		}
	}
}
