package compose_test

import (
	"math/rand"
	"reflect"
	"slices"
	"testing"

	"studwork/api"
	"studwork/compose"
)

// roomy returns a copy of a list with memory after its end, all of it filled.
func roomy[T any](l []T, fill T) []T {
	all := append(slices.Clone(l), fill, fill, fill)
	return all[:len(l)]
}

// roomy returns the arguments in slices that all have memory after their ends.
func (c call) roomy() call {
	c.s.Cells = roomy(c.s.Cells, 9)
	c.l = roomy(c.l, plate(7, 8, 9, 9))
	c.c = roomy(c.c, turned(9, 9, 9, 9))
	c.pixels = roomy(c.pixels, grey)
	c.palette = roomy(c.palette, grey)
	return c
}

// whole copies the arguments to the ends of their memory.
func (c call) whole() call {
	c.s.Cells = slices.Clone(c.s.Cells[:cap(c.s.Cells)])
	c.l = slices.Clone(c.l[:cap(c.l)])
	c.c = slices.Clone(c.c[:cap(c.c)])
	c.pixels = slices.Clone(c.pixels[:cap(c.pixels)])
	c.palette = slices.Clone(c.palette[:cap(c.palette)])
	return c
}

// someCalls returns arguments for which some functions have results, and some have errors.
func someCalls(r *rand.Rand) []call {
	var calls []call
	for range 200 {
		c := call{s: randomShape(r, 9), l: randomPlates(r), w: 1 + r.Intn(4)}
		if all := wantAll(c.s, c.l); len(all) > 0 {
			c.c = all[r.Intn(len(all))]
		}
		for range c.w * (1 + r.Intn(2)) {
			c.pixels = append(c.pixels, api.Hue{R: uint8(r.Intn(256)), B: uint8(r.Intn(256))})
			c.palette = append(c.palette, api.Hue{R: uint8(r.Intn(256)), G: uint8(r.Intn(256))})
		}
		calls = append(calls, c)
	}
	return calls
}

// slicesOf calls a function with all slices in a value, those inside of another one first.
func slicesOf(v reflect.Value, do func(reflect.Value)) {
	switch v.Kind() {
	case reflect.Struct:
		for i := range v.NumField() {
			slicesOf(v.Field(i), do)
		}
	case reflect.Slice:
		for i := range v.Len() {
			slicesOf(v.Index(i), do)
		}
		do(v)
	}
}

// R3: arguments are only read, also after the ends of their slices; what is done to a result changes neither them nor the next result.
func TestP1ArgumentsAndResults(t *testing.T) {
	for _, c := range someCalls(rand.New(rand.NewSource(41))) {
		c = c.roomy()
		before, want := c.whole(), c.all()
		if after := c.whole(); !reflect.DeepEqual(before, after) {
			t.Fatal("arguments changed", before, after)
		}
		for _, r := range c.all() {
			slicesOf(reflect.ValueOf(r.value), func(l reflect.Value) { l.Slice(0, l.Cap()).Clear() })
		}
		if got := c.all(); !reflect.DeepEqual(got, want) {
			t.Fatal("results changed", got, want)
		}
		if after := c.whole(); !reflect.DeepEqual(before, after) {
			t.Fatal("results share memory with arguments", before, after)
		}
	}
}

// R3: the cells and knobs of one kind share no memory with those of another one.
func TestP1KindsAreApart(t *testing.T) {
	kinds, _ := compose.Kinds(rectangles())
	want, _ := compose.Kinds(rectangles())
	for i, k := range kinds {
		_ = append(k.Cells, slices.Repeat(list(cell(9, 9, 9)), 30)...)
		_ = append(k.Knobs, slices.Repeat(list(api.Knob{}), 60)...)
		clear(k.Cells[:cap(k.Cells)])
		clear(k.Knobs[:cap(k.Knobs)])
		if !reflect.DeepEqual(kinds[i+1:], want[i+1:]) {
			t.Fatal(i, kinds)
		}
	}
}

// R4: nil and empty slices are the same.
func TestP1NilAndEmpty(t *testing.T) {
	none := call{s: api.Shape{Cells: []uint8{}}, l: []api.Plate{}, c: []api.Laid{}, pixels: []api.Hue{}, palette: []api.Hue{}}
	some := call{s: first(), l: few(9, 9)}
	for _, x := range [][2]call{
		{{}, none},
		{{s: first()}, {s: first(), l: none.l}},
		{some, {s: first(), l: few(9, 9), c: none.c, pixels: none.pixels, palette: none.palette}},
		{{pixels: list(grey), w: 1}, {pixels: list(grey), palette: none.palette, w: 1}},
		{{palette: list(grey), w: 1}, {pixels: none.pixels, palette: list(grey), w: 1}},
	} {
		theirs := x[1].all()
		for name, mine := range x[0].all() {
			other := theirs[name]
			if mine.e != other.e || !(isZero(mine.value) && isZero(other.value) || reflect.DeepEqual(mine.value, other.value)) {
				t.Error(name, mine, other)
			}
		}
	}
}

// R2: together with an error there is nothing else.
func wantNothing(t *testing.T, c call) {
	t.Helper()
	for name, x := range c.all() {
		if x.e != api.OK && !isZero(x.value) {
			t.Error(name, c, x)
		}
	}
}

// R2 and R5 to R7: numbers of any size lead to an error or a result, and never to a panic.
func TestP1Anything(t *testing.T) {
	r := rand.New(rand.NewSource(42))
	number := func() int {
		if r.Intn(9) == 0 {
			return extremes[r.Intn(len(extremes))]
		}
		return r.Intn(5) - 1
	}
	for range 5000 {
		c := call{s: randomShape(r, 9), l: randomPlates(r), w: number()}
		switch r.Intn(4) {
		case 0:
			c.s = shape(number(), number(), number(), make([]uint8, r.Intn(9))...)
		case 1:
			c.s.Cells[0] = uint8(number())
		case 2:
			c.l = append(c.l, plate(number(), number(), number(), uint8(number())))
		}
		for range r.Intn(5) {
			c.c = append(c.c, api.Laid{Plate: number(), At: cell(number(), number(), number()), Turned: r.Intn(2) == 0})
			c.pixels = append(c.pixels, grey)
			c.palette = append(c.palette, grey)
		}
		wantNothing(t, c)
	}
	for _, c := range someCalls(r) {
		wantNothing(t, c)
	}
}

// R5: numbers out of range, of all sizes and signs, also those whose products come into range again.
func TestP1Extremes(t *testing.T) {
	for _, n := range extremes {
		for _, s := range []api.Shape{shape(n, 1, 1, 1), shape(1, n, 1, 1), shape(1, 1, n, 1), shape(n, n, 1, 1), shape(n, 1, n, 1), shape(1, n, n, 1), shape(n, n, n, 1)} {
			allFail(t, n, call{s: s, l: few(9, 9), c: singles()}.ofShape(), api.ErrShape)
			wantErr(t, n, compose.CheckShape(s), api.ErrShape)
		}
		for _, p := range []api.Plate{plate(n, 8, 1, 0), plate(n, n, 1, 0), plate(1, n, 1, 0)} {
			wantErr(t, p, compose.CheckPlates(list(p)), api.ErrPlate)
		}
		if n < 0 || n > 99 {
			wantErr(t, n, compose.CheckPlates(few(1, n)), api.ErrPlate)
		}
	}
	const half = 1 << 32
	wantErr(t, half, compose.CheckShape(shape(half, half, 1)), api.ErrShape)
	wantErr(t, half, compose.CheckShape(shape(half+1, half-1, 1)), api.ErrShape)
}

// The same arguments always have the same results.
func TestP1SameResults(t *testing.T) {
	for _, c := range someCalls(rand.New(rand.NewSource(43))) {
		want := c.all()
		for range 3 {
			if got := c.all(); !reflect.DeepEqual(got, want) {
				t.Fatal(got, want)
			}
		}
	}
}

// Very long lists are told by their lengths, or by their first numbers.
func TestP1Long(t *testing.T) {
	const many = 1 << 20
	wantErr(t, "cells", compose.CheckShape(shape(8, 8, 4, make([]uint8, many)...)), api.ErrShape)
	wantErr(t, "plates", compose.CheckPlates(make([]api.Plate, many)), api.ErrPlate)
	wantErr(t, "composition", compose.Check(first(), few(9, 9), make([]api.Laid, many)), api.ErrBad)
	_, e := compose.Paint(make([]api.Hue, many), make([]api.Hue, many), 8)
	wantErr(t, "picture", e, api.ErrArg)
}
