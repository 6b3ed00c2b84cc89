package sort_test

import (
	"math/rand"
	"slices"
	"testing"

	"studwork/api"
	"studwork/sort"
)

// changed returns the belt of the examples after a change.
func changed(change func(*api.Belt)) api.Belt {
	b := first()
	change(&b)
	return b
}

// long is a belt of the greatest length with gates.
func long(slow int, l []api.Gate) api.Belt {
	return api.Belt{Length: 100, Slow: slow, Gates: l, Bins: binsOf(0, 1)}
}

// eight are as many gates as there are bins.
func eight() []api.Gate { return gates(1, 7, 2, 6, 3, 5, 4, 4, 5, 3, 6, 2, 7, 1, 8, 0) }

// badBelts are belts that are not valid.
func badBelts() []api.Belt {
	l := []api.Belt{
		{},
		{Length: 1, Camera: -1, Bins: binsOf()},
		{Length: 1, Bins: binsOf()},
		{Length: 2, Camera: 1, Bins: binsOf()},
		changed(func(b *api.Belt) { b.Length = 101 }),
		changed(func(b *api.Belt) { b.Length = 15 }),
		changed(func(b *api.Belt) { b.Camera = -1 }),
		changed(func(b *api.Belt) { b.Camera = 10 }),
		changed(func(b *api.Belt) { b.Gates, b.Camera = nil, 19 }),
		changed(func(b *api.Belt) { b.Slow = -1 }),
		changed(func(b *api.Belt) { b.Slow = 11 }),
		changed(func(b *api.Belt) { b.Bins = nil }),
		changed(func(b *api.Belt) { b.Bins = b.Bins[:15] }),
		changed(func(b *api.Belt) { b.Bins = append(b.Bins, 0) }),
		long(1, append(eight(), api.Gate{At: 9, Bin: 0})),
		long(1, append(eight(), api.Gate{At: 9, Bin: 8})),
	}
	for _, g := range [][]api.Gate{gates(2, 0), gates(1, 0), gates(20, 0), gates(21, 0), gates(10, 0, 10, 1), gates(10, 0, 9, 1), gates(5, 0, 11, 1, 10, 2), gates(10, 0, 15, 0), gates(10, 0, 12, 1, 15, 0), gates(10, -1), gates(10, 8), gates(10, 0, 15, 8)} {
		l = append(l, changed(func(b *api.Belt) { b.Gates = g }))
	}
	for _, n := range append(extremes, 8) {
		l = append(l, changed(func(b *api.Belt) { b.Bins[0] = n }), changed(func(b *api.Belt) { b.Bins[15] = n }))
		l = append(l, changed(func(b *api.Belt) { b.Gates[0].Bin = n }), changed(func(b *api.Belt) { b.Gates[1].Bin = n }))
	}
	for _, n := range extremes {
		l = append(l, changed(func(b *api.Belt) { b.Length = n }), changed(func(b *api.Belt) { b.Camera = n }), changed(func(b *api.Belt) { b.Slow = n }))
		l = append(l, changed(func(b *api.Belt) { b.Gates[0].At = n }), changed(func(b *api.Belt) { b.Gates[1].At = n }))
		l = append(l, changed(func(b *api.Belt) { b.Length, b.Gates = n, nil }), changed(func(b *api.Belt) { b.Camera, b.Gates = n, nil }))
	}
	return l
}

func TestP9_1CheckBelt(t *testing.T) {
	for _, b := range []api.Belt{
		first(),
		{Length: 2, Bins: binsOf()},
		{Length: 2, Gates: gates(1, 7), Bins: binsOf(7)},
		{Length: 100, Camera: 98, Slow: 10, Gates: gates(99, 0), Bins: slices.Repeat(list(7), 16)},
		{Length: 20, Camera: 18, Bins: slices.Repeat(list(0), 16)},
		long(0, eight()),
		long(10, eight()),
		changed(func(b *api.Belt) { b.Length = 16 }),
		changed(func(b *api.Belt) { b.Camera = 9 }),
		changed(func(b *api.Belt) { b.Camera = 0 }),
		changed(func(b *api.Belt) { b.Gates = gates(3, 1, 19, 0) }),
		changed(func(b *api.Belt) { b.Gates = gates(10, 0, 11, 1) }),
		changed(func(b *api.Belt) { b.Bins = binsOf(0, 0, 7, 7, -1, 3) }), // some of these bins have no gate
	} {
		wantErr(t, b, sort.CheckBelt(b), api.OK)
	}
	for _, b := range badBelts() {
		wantErr(t, b, sort.CheckBelt(b), api.ErrBelt)
	}
}

func TestP9_1AnyBelt(t *testing.T) {
	r := rand.New(rand.NewSource(1))
	counts := map[api.Errno]int{}
	for range 20000 {
		b := randomBelt(r)
		wantErr(t, b, sort.CheckBelt(b), api.OK)
		by := r.Intn(5) - 2
		switch r.Intn(6) {
		case 0:
			b.Length += by
		case 1:
			b.Camera += by
		case 2:
			b.Slow += by
		case 3:
			b.Bins[r.Intn(16)] += by
		default:
			for range min(2, len(b.Gates)) {
				g := &b.Gates[r.Intn(len(b.Gates))]
				g.At, g.Bin = g.At+by, g.Bin+r.Intn(2)
			}
		}
		want := api.ErrBelt
		if wantBelt(b) {
			want = api.OK
		}
		wantErr(t, b, sort.CheckBelt(b), want)
		counts[want]++
	}
	if counts[api.OK] < 2000 || counts[api.ErrBelt] < 2000 {
		t.Error(counts)
	}
}

// badReadings are lists of readings that are not valid.
func badReadings() [][]int {
	l := [][]int{nil, {}, {16}, {-2}, {0, 16}, {0, 1, -2}, {-2, -2, -2}, make([]int, 10), slices.Repeat(list(-1), 10), make([]int, 100)}
	for _, n := range extremes {
		l = append(l, list(n), list(3, n), list(n, 3, 3))
	}
	return l
}

// some returns n parts as near to each other as possible.
func some(n int) []api.Fed {
	var l []api.Fed
	for i := range n {
		l = append(l, part(i, 1))
	}
	return l
}

// badFed are lists of parts that are not fed parts.
func badFed() [][]api.Fed {
	l := [][]api.Fed{
		ticks(-1),
		ticks(1001),
		ticks(5, 5),
		ticks(6, 5),
		ticks(0, 1, 2, 2),
		ticks(0, 5, 4, 6),
		ticks(999, 1000, 1001),
		list(part(0, -1, 0)),
		list(part(0, 16, 0)),
		list(part(0, 1), part(1, 16, 0)),
		some(41),
		make([]api.Fed, 1),
	}
	for _, n := range extremes {
		l = append(l, list(part(n, 1, 1)), list(part(0, n, 1)), list(part(3, 1), part(n, 1)), list(part(3, 1), part(4, n, 1)))
	}
	for _, readings := range badReadings() {
		x := api.Fed{Tick: 7, Kind: 1, Readings: readings}
		l = append(l, list(x), list(part(0, 1), x), list(x, part(8, 1)))
	}
	return l
}

func TestP9_1CheckFed(t *testing.T) {
	for _, l := range [][]api.Fed{
		nil,
		{},
		ticks(0),
		ticks(1000),
		ticks(0, 1000),
		ticks(999, 1000),
		parts(3, 0, 4, 15, 9, 0),
		some(40),
		list(part(0, 3, 4), part(1, 3, -1), part(2, 3, 15, 0)),
		list(part(0, 3, 0, 1, 2, 3, 4, 5, 6, 7, 8), part(1, 3, -1, -1, -1, -1, -1, -1, -1, -1, -1)),
	} {
		wantErr(t, l, sort.CheckFed(l), api.OK)
	}
	for _, l := range badFed() {
		wantErr(t, l, sort.CheckFed(l), api.ErrFed)
	}
}

func TestP9_1AnyFed(t *testing.T) {
	r := rand.New(rand.NewSource(2))
	counts := map[api.Errno]int{}
	for range 20000 {
		l := randomFed(r, r.Intn(11))
		wantErr(t, l, sort.CheckFed(l), api.OK)
		if len(l) == 0 {
			continue
		}
		x := &l[r.Intn(len(l))]
		switch by := r.Intn(5) - 2; r.Intn(4) {
		case 0:
			x.Tick += 3 * by
		case 1:
			x.Kind += 4 * by
		case 2:
			x.Readings[r.Intn(len(x.Readings))] += by
		case 3:
			x.Readings = append(x.Readings, x.Readings...)
		}
		want := api.ErrFed
		if wantFed(l) {
			want = api.OK
		}
		wantErr(t, l, sort.CheckFed(l), want)
		counts[want]++
	}
	if counts[api.OK] < 2000 || counts[api.ErrFed] < 2000 {
		t.Error(counts)
	}
}

func TestP9_1Read(t *testing.T) {
	for _, x := range []struct {
		readings []int
		want     int
	}{
		{list(3, 3, -1), 3},
		{list(3, 4), -1},
		{list(-1), -1},
		{list(3, 4, 4, 3, 5), -1},
		{list(0), 0},
		{list(15), 15},
		{list(-1, -1, 0), 0}, // nothing is no kind
		{list(-1, -1, -1, -1, -1, -1, -1, -1, 9), 9},
		{list(-1, -1, -1, -1, -1, -1, -1, -1, -1), -1},
		{list(5, 6, -1, -1, -1), -1},
		{list(5, 6, 6, 5, 6), 6},
		{list(5, 6, 6, 5, 5), 5},
		{list(1, 1, 2, 2, 3, 3, 3), 3},
		{list(3, 3, 3, 1, 1, 2, 2), 3},
		{list(3, 3, 1, 1, 1, 2, 2), 1},
		{list(0, 1, 2, 3, 4, 5, 6, 7, 8), -1},
		{list(0, 1, 2, 3, 4, 5, 6, 7, 7), 7},
		{list(0, 0, 15, 15, 2, 2, -1, -1, -1), -1},
	} {
		kind, e := sort.Read(x.readings)
		wantErr(t, x, e, api.OK)
		if kind != x.want {
			t.Error(x, kind)
		}
	}
	for _, l := range badReadings() {
		allFail(t, l, map[string]result{"Read": of(sort.Read(l))}, api.ErrArg)
	}
}

// All lists of up to 5 readings of four kinds or nothing, and longer ones.
func TestP9_1AnyReadings(t *testing.T) {
	check := func(l []int) {
		if kind, e := sort.Read(l); kind != wantRead(l) || e != api.OK {
			t.Fatal(l, kind, e)
		}
	}
	var all func([]int)
	all = func(l []int) {
		if len(l) > 0 {
			check(l)
		}
		for kind := -1; kind < 4 && len(l) < 5; kind++ {
			all(append(slices.Clone(l), kind))
		}
	}
	all(nil)
	r := rand.New(rand.NewSource(3))
	for range 20000 {
		check(randomNumbers(r, 1+r.Intn(9), -1, r.Intn(16)))
	}
}

// The errors of the functions with belts, in their order: each call has all the errors that come after its own.
func TestP9_2ErrorsInOrder(t *testing.T) {
	failing := call{b: first(), l: ticks(0), swings: list(goesOut(9, 0))}
	wrong := list(goesOut(9, 2))
	for _, b := range badBelts() {
		c := call{b: b, l: ticks(0)}
		allFail(t, b, c.ofBelt(), api.ErrBelt)
		c.l, c.swings = ticks(-1), wrong
		allFail(t, b, c.ofBelt(), api.ErrBelt)
	}
	for _, l := range badFed() {
		c := failing
		c.l = l
		allFail(t, l, c.ofBelt(), api.ErrFed)
		c.swings = wrong
		allFail(t, l, c.ofBelt(), api.ErrFed)
	}
	run := func(c call) map[string]result { return map[string]result{"Run": c.ofBelt()["Run"]} }
	allFail(t, "moving", run(failing), api.ErrMoving)
	failing.swings = append(failing.swings, wrong...)
	allFail(t, "bad and moving", run(failing), api.ErrBad)
}
