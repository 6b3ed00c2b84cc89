package lattice_test

import (
	"math/rand"
	"reflect"
	"slices"
	"testing"

	"studwork/api"
	"studwork/lattice"
)

// roomy returns a copy of a list with memory after its end, all of it filled.
func roomy[T any](l []T, fill T) []T {
	all := append(slices.Clone(l), fill, fill, fill)
	return all[:len(l)]
}

// roomyArguments returns arguments whose slices all have memory after their ends.
func roomyArguments(l []api.Kind, m api.Model) ([]api.Kind, api.Model) {
	kinds := roomy(l, plate())
	for i, k := range kinds {
		kinds[i].Cells = roomy(k.Cells, cell(9, 9, 9))
		kinds[i].Knobs = roomy(k.Knobs, knob(9, 9, 9, 5, 6))
	}
	return kinds, api.Model{Bricks: roomy(m.Bricks, brick(1, 9, 9, 9, 9))}
}

// whole copies arguments to the ends of their memory.
func whole(l []api.Kind, m api.Model) ([]api.Kind, []api.Brick) {
	kinds := slices.Clone(l[:cap(l)])
	for i, k := range kinds {
		kinds[i].Cells = slices.Clone(k.Cells[:cap(k.Cells)])
		kinds[i].Knobs = slices.Clone(k.Knobs[:cap(k.Knobs)])
	}
	return kinds, slices.Clone(m.Bricks[:cap(m.Bricks)])
}

// callAll calls every function with kinds, and returns all that they return.
func callAll(l []api.Kind, m api.Model) map[string]result {
	all := withModel(l, m)
	all["Overlaps"] = of(lattice.Overlaps(l, m))
	all["CheckKinds"] = result{nil, lattice.CheckKinds(l)}
	if len(l) > 0 {
		all["CheckKind"] = result{nil, lattice.CheckKind(l[0])}
		all["Symmetries"] = of(lattice.Symmetries(l[0]))
	}
	if len(m.Bricks) > 0 {
		for name, r := range withBrick(l, m.Bricks[0]) {
			all[name] = r
		}
	}
	return all
}

// R3: arguments are only read, also after the ends of their slices.
func TestP1ArgumentsAreRead(t *testing.T) {
	r := rand.New(rand.NewSource(41))
	for range 50 {
		kinds := randomKinds(r)
		l, m := roomyArguments(kinds, randomModel(r, kinds, 10))
		before, bricks := whole(l, m)
		callAll(l, m)
		after, left := whole(l, m)
		if !reflect.DeepEqual(before, after) || !reflect.DeepEqual(bricks, left) {
			t.Fatal("arguments changed", before, after, bricks, left)
		}
	}
}

// R3: what is done to a result changes neither the arguments nor the next result.
func TestP1ResultsAreNew(t *testing.T) {
	r := rand.New(rand.NewSource(43))
	for range 50 {
		l := randomKinds(r)
		m := randomModel(r, l, 10)
		before, bricks := whole(l, m)
		want := callAll(l, m)
		for _, r := range callAll(l, m) {
			spoil(r.value)
		}
		if got := callAll(l, m); !reflect.DeepEqual(got, want) {
			t.Fatal("results changed", got, want)
		}
		after, left := whole(l, m)
		if !reflect.DeepEqual(before, after) || !reflect.DeepEqual(bricks, left) {
			t.Fatal("arguments changed")
		}
	}
}

// spoil writes zeros over all memory of a result.
func spoil(v any) {
	if m, ok := v.(api.Model); ok {
		clear(m.Bricks[:cap(m.Bricks)])
	}
	if x := reflect.ValueOf(v); x.Kind() == reflect.Slice {
		x.Slice(0, x.Cap()).Clear()
	}
}

// R4: nil and empty slices are the same.
func TestP1NilAndEmpty(t *testing.T) {
	none := api.Kind{Cells: []api.Cell{{}}, Weight: 1}
	empty := none
	empty.Knobs = []api.Knob{}
	for _, m := range []api.Model{{}, {Bricks: []api.Brick{}}, model(api.Brick{}, brick(0, 1, 0, 0, 0))} {
		a, b := callAll([]api.Kind{none}, m), callAll([]api.Kind{empty}, m)
		for name, x := range a {
			y := b[name]
			if x.e != y.e || !(x.value == nil || isZero(x.value) && isZero(y.value) || reflect.DeepEqual(x.value, y.value)) {
				t.Error(name, x, y)
			}
		}
	}
	for _, l := range [][]api.Kind{nil, {}} {
		for name, r := range callAll(l, model()) {
			wantErr(t, name, r.e, api.OK)
		}
	}
}

// R5 to R7: numbers of any size lead to an error or a result, and never to a panic.
func TestP1AnyNumbers(t *testing.T) {
	r := rand.New(rand.NewSource(47))
	number := func() int {
		if r.Intn(2) == 0 {
			return extremes[r.Intn(len(extremes))]
		}
		return r.Intn(30) - 3
	}
	at := func() api.Cell { return cell(number(), number(), number()) }
	small := func() uint8 { return uint8(number()) }
	for range 3000 {
		var l []api.Kind
		for range r.Intn(3) {
			k := api.Kind{Weight: number()}
			for range r.Intn(3) {
				k.Cells = append(k.Cells, at())
				k.Knobs = append(k.Knobs, api.Knob{At: at(), Dir: small(), Sort: small()})
			}
			l = append(l, k)
		}
		if r.Intn(2) == 0 {
			l = randomKinds(r)
		}
		var m api.Model
		for range r.Intn(4) {
			m.Bricks = append(m.Bricks, api.Brick{Kind: number() % 4, At: at(), Turn: small(), Color: small()})
		}
		for name, x := range callAll(l, m) {
			if x.e != api.OK && x.value != nil && !isZero(x.value) {
				t.Error(name, x)
			}
		}
		numbers := map[string]result{
			"Turn":      of(lattice.Turn(at(), number())),
			"Direction": of(lattice.Direction(number(), number())),
			"Compose":   of(lattice.Compose(number(), number())),
			"Invert":    of(lattice.Invert(number())),
			"Move":      of(lattice.Move(plates(), row(2), number(), at())),
		}
		for name, x := range numbers {
			if x.e != api.OK && (x.e != api.ErrArg && x.e != api.ErrBrick || !isZero(x.value)) {
				t.Error(name, x)
			}
		}
	}
}
