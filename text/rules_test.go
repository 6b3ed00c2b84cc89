package text_test

import (
	"math/rand"
	"reflect"
	"slices"
	"strings"
	"testing"

	"studwork/api"
	"studwork/text"
)

// roomy returns a copy of a document whose slices all have memory after their ends, all of it filled.
func roomy(d api.Doc) api.Doc {
	subs := append(slices.Clone(d.Subs), sub("after"), sub("after"))
	for i, s := range subs {
		subs[i].Lines = append(slices.Clone(s.Lines), line(9, 9, 9, 9, 9, 9), line(9, 9, 9, 9, 9, 9))[:len(s.Lines)]
	}
	return api.Doc{Subs: subs[:len(d.Subs)]}
}

// whole copies a document to the ends of its memory.
func whole(d api.Doc) []api.Sub {
	subs := slices.Clone(d.Subs[:cap(d.Subs)])
	for i, s := range subs {
		subs[i].Lines = slices.Clone(s.Lines[:cap(s.Lines)])
	}
	return subs
}

// someDocs returns documents for which some functions have results, and some have errors.
func someDocs(r *rand.Rand) []api.Doc {
	docs := []api.Doc{car(), tree(), chain(8, 20, times(20, line(0, 0, 0, 0, 0, 0))...)}
	for range 60 {
		docs = append(docs, randomDoc(r, 200, 1+r.Intn(8)))
	}
	return docs
}

// R3: arguments are only read, also after the ends of their slices.
func TestP1ArgumentsAreRead(t *testing.T) {
	for _, d := range someDocs(rand.New(rand.NewSource(41))) {
		d = roomy(d)
		before := whole(d)
		for i := range d.Subs {
			callAll(d, i, "new")
		}
		text.Same(d, d)
		if after := whole(d); !reflect.DeepEqual(before, after) {
			t.Fatal("arguments changed", before, after)
		}
	}
}

// spoil writes over all memory of a result.
func spoil(v any) {
	switch x := v.(type) {
	case api.Doc:
		for _, s := range x.Subs[:cap(x.Subs)] {
			clear(s.Lines[:cap(s.Lines)])
		}
		clear(x.Subs[:cap(x.Subs)])
	case api.Model:
		clear(x.Bricks[:cap(x.Bricks)])
	case []api.Item:
		clear(x[:cap(x)])
	}
}

// R3: what is done to a result changes neither the arguments nor the next result, nor another part of the result.
func TestP1ResultsAreNew(t *testing.T) {
	for _, d := range someDocs(rand.New(rand.NewSource(42))) {
		d = roomy(d)
		before := whole(d)
		s, _ := text.Write(d)
		for i := range d.Subs {
			want := callAll(d, i, "new")
			for _, x := range callAll(d, i, "new") {
				spoil(x.value)
			}
			read, _, _ := text.Read(s)
			spoil(read)
			if got := callAll(d, i, "new"); !reflect.DeepEqual(got, want) {
				t.Fatal("results changed", got, want)
			}
		}
		wantRead(t, s, d)
		if !reflect.DeepEqual(before, whole(d)) {
			t.Fatal("arguments changed")
		}
		wantApart(t, d, s)
	}
}

// wantApart spoils one sub-model of a result after the other, and appends to it: those after it stay.
func wantApart(t *testing.T, d api.Doc, s string) {
	t.Helper()
	read, _, _ := text.Read(s)
	pruned, _ := text.Prune(d)
	inlined, _ := text.Inline(d, 1)
	renamed, _ := text.Rename(d, 0, "new")
	for _, x := range []api.Doc{read, pruned, inlined, renamed} {
		want := copyDoc(x)
		for i, s := range x.Subs {
			_ = append(s.Lines, times(20, line(9, 9, 9, 9, 9, 9))...)
			clear(s.Lines[:cap(s.Lines)])
			wantDoc(t, d, doc(x.Subs[i+1:]...), doc(want.Subs[i+1:]...))
		}
	}
}

// R4: nil and empty slices are the same.
func TestP1NilAndEmpty(t *testing.T) {
	none := doc(sub("a", use(1, 0, 0, 0, 0, 0)), sub("b"))
	empty := copyDoc(none)
	empty.Subs[1].Lines = []api.Line{}
	if !text.Same(none, empty) || !text.Same(empty, none) {
		t.Error("not the same")
	}
	a, b := callAll(none, 1, "new"), callAll(empty, 1, "new")
	for name, x := range a {
		y := b[name]
		equal := reflect.DeepEqual(x.value, y.value) || isZero(x.value) && isZero(y.value)
		if p, ok := x.value.(api.Doc); ok {
			equal = sameDocs(p, y.value.(api.Doc))
		}
		if x.e != api.OK || y.e != api.OK || !equal {
			t.Error(name, x, y)
		}
	}
}

// R2 and R5 to R7: numbers and texts of any size lead to an error or a result, and never to a panic.
func TestP1Anything(t *testing.T) {
	r := rand.New(rand.NewSource(43))
	number := func() int {
		if r.Intn(8) == 0 {
			return extremes[r.Intn(len(extremes))]
		}
		return r.Intn(12) - 2
	}
	name := func() string {
		return append(badNames(), "a", "b", "c", "d", "e", "f", "g", "h")[r.Intn(len(badNames())+8)]
	}
	for range 5000 {
		var d api.Doc
		for range r.Intn(4) {
			s := api.Sub{Name: name()}
			for range r.Intn(3) {
				s.Lines = append(s.Lines, api.Line{Sub: number(), Brick: brick(number(), number(), number(), number(), uint8(number()), uint8(number()))})
			}
			d.Subs = append(d.Subs, s)
		}
		if r.Intn(2) == 0 {
			d = randomDoc(r, 1000, 20)
		}
		for call, x := range callAll(d, number(), name()) {
			if x.e != api.OK && !isZero(x.value) {
				t.Error(call, x)
			}
			if p, ok := x.value.(api.Doc); ok && x.e == api.OK {
				wantErr(t, call, text.Check(p), api.OK)
			}
		}
		text.Same(d, d)
	}
	for range 2000 {
		var b strings.Builder
		for range r.Intn(60) {
			b.WriteByte(byte(r.Intn(256)))
		}
		if d, n, e := text.Read(b.String()); e != api.ErrForm && e != api.OK || e != api.OK && (n < 1 || d.Subs != nil) {
			t.Errorf("%q: %v %d %d", b.String(), d, n, e)
		}
	}
}

// Very long lists are told by their lengths.
func TestP1Long(t *testing.T) {
	long := doc(sub("a"))
	long.Subs[0].Lines = make([]api.Line, 1<<20)
	subs := api.Doc{Subs: make([]api.Sub, 1<<20)}
	for _, d := range []api.Doc{long, subs} {
		for name, x := range callAll(d, 0, strings.Repeat("a", 1<<20)) {
			wantErr(t, name, x.e, api.ErrBad)
		}
		if !text.Same(d, d) {
			t.Error("not the same")
		}
	}
}
