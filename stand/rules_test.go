package stand_test

import (
	"math/rand"
	"reflect"
	"slices"
	"testing"

	"studwork/api"
	"studwork/stand"
)

// roomy returns a copy of a list with memory after its end, all of it filled.
func roomy[T any](l []T, fill T) []T {
	all := append(slices.Clone(l), fill, fill, fill)
	return all[:len(l)]
}

// call is the arguments of all functions.
type call struct {
	l     []api.Kind
	m     api.Model
	r     api.Rest
	part  []int
	loads []api.Load
	p     api.Poise
}

func (c call) all() map[string]result {
	results := withRest(c.l, c.m, c.r, c.part, c.loads, c.p)
	results["Capacity"] = of(stand.Capacity(c.l, c.m, 0, len(c.m.Bricks)-1))
	return results
}

// roomy returns the arguments in slices that all have memory after their ends.
func (c call) roomy() call {
	c.l = roomy(c.l, bar(2, 9))
	for i, k := range c.l {
		c.l[i].Cells = roomy(k.Cells, cell(9, 9, 9))
		c.l[i].Knobs = roomy(k.Knobs, knob(9, 9, 9, 5, 6))
	}
	c.m.Bricks = roomy(c.m.Bricks, brick(1, 9, 9, 9, 9))
	c.r.Hands = roomy(c.r.Hands, 99)
	c.part = roomy(c.part, 98)
	c.loads = roomy(c.loads, load(9, 8, 7))
	return c
}

// whole copies the arguments to the ends of their memory.
func (c call) whole() call {
	c.l = slices.Clone(c.l[:cap(c.l)])
	for i, k := range c.l {
		c.l[i].Cells = slices.Clone(k.Cells[:cap(k.Cells)])
		c.l[i].Knobs = slices.Clone(k.Knobs[:cap(k.Knobs)])
	}
	c.m.Bricks = slices.Clone(c.m.Bricks[:cap(c.m.Bricks)])
	c.r.Hands = slices.Clone(c.r.Hands[:cap(c.r.Hands)])
	c.part = slices.Clone(c.part[:cap(c.part)])
	c.loads = slices.Clone(c.loads[:cap(c.loads)])
	return c
}

// someCalls returns arguments for which some functions have results, and some have errors.
func someCalls(rnd *rand.Rand) []call {
	var calls []call
	for range 60 {
		c := call{l: randomKinds(rnd)}
		c.m = randomModel(rnd, c.l, 12)
		c.r = randomRest(rnd, c.l, c.m)
		c.part = randomPart(rnd, len(c.m.Bricks))
		c.loads, _ = stand.Loads(c.l, c.m, c.r)
		c.p, _ = stand.Balance(c.l, c.m, c.r, c.part)
		calls = append(calls, c)
	}
	return calls
}

// R3: arguments are only read, also after the ends of their slices.
func TestP1ArgumentsAreRead(t *testing.T) {
	for _, c := range someCalls(rand.New(rand.NewSource(41))) {
		c = c.roomy()
		before := c.whole()
		c.all()
		if after := c.whole(); !reflect.DeepEqual(before, after) {
			t.Fatal("arguments changed", before, after)
		}
	}
}

// R3: what is done to a result changes neither the arguments nor the next result.
func TestP1ResultsAreNew(t *testing.T) {
	for _, c := range someCalls(rand.New(rand.NewSource(42))) {
		c = c.roomy()
		before, want := c.whole(), c.all()
		for _, r := range c.all() {
			if x := reflect.ValueOf(r.value); x.Kind() == reflect.Slice {
				x.Slice(0, x.Cap()).Clear()
			}
		}
		if got := c.all(); !reflect.DeepEqual(got, want) {
			t.Fatal("results changed", got, want)
		}
		if after := c.whole(); !reflect.DeepEqual(before, after) {
			t.Fatal("arguments changed", before, after)
		}
	}
}

// R4: nil and empty slices are the same.
func TestP1NilAndEmpty(t *testing.T) {
	kind := smooth(1, cell(0, 0, 0))
	empty := kind
	empty.Knobs = []api.Knob{}
	none := call{l: []api.Kind{kind}, m: model(brick(0, 0, 0, 0, 0), brick(0, 5, 0, 0, 0)), r: rest(0)}
	other := call{l: []api.Kind{empty}, m: none.m, r: api.Rest{Hands: []int{}}, part: []int{}, loads: []api.Load{}}
	wantSame(t, none, other)
	wantSame(t, call{}, call{l: []api.Kind{}, m: api.Model{Bricks: []api.Brick{}}, r: api.Rest{Hands: []int{}}, part: []int{}, loads: []api.Load{}})
	wantErr(t, "no bricks", stand.CheckLoads(nil, model(), rest(0), []api.Load{}), api.OK)
}

func wantSame(t *testing.T, a, b call) {
	t.Helper()
	theirs := b.all()
	for name, x := range a.all() {
		y := theirs[name]
		if x.e != y.e || !(isZero(x.value) && isZero(y.value) || reflect.DeepEqual(x.value, y.value)) {
			t.Error(name, x, y)
		}
	}
}

// The same arguments always have the same results.
func TestP1SameResults(t *testing.T) {
	for _, c := range someCalls(rand.New(rand.NewSource(43))) {
		want := c.all()
		for range 3 {
			if got := c.all(); !reflect.DeepEqual(got, want) {
				t.Fatal(got, want)
			}
		}
	}
}

// R2 and R5 to R7: numbers of any size lead to an error or a result, and never to a panic.
func TestP1Anything(t *testing.T) {
	rnd := rand.New(rand.NewSource(44))
	number := func() int {
		if rnd.Intn(6) == 0 {
			return extremes[rnd.Intn(len(extremes))]
		}
		return rnd.Intn(8) - 2
	}
	numbers := func() []int {
		var l []int
		for range rnd.Intn(4) {
			l = append(l, number())
		}
		return l
	}
	for range 3000 {
		c := call{l: randomKinds(rnd), r: api.Rest{Table: number(), Hands: numbers()}, part: numbers()}
		switch rnd.Intn(3) {
		case 0:
			c.m = model(brick(number(), number(), number(), number(), uint8(number())), brick(0, number(), 0, 0, 0))
			c.l[0] = api.Kind{Cells: []api.Cell{cell(number(), 0, number())}, Weight: number()}
		case 1:
			c.m = first()
		default:
			c.m = randomModel(rnd, c.l, 4)
			c.r = randomRest(rnd, c.l, c.m)
		}
		for range rnd.Intn(4) {
			c.loads = append(c.loads, load(number(), number(), number()))
		}
		c.p = api.Poise{Balanced: rnd.Intn(2) == 0, At: [3]int{number(), number(), number()}, A: number(), B: number(), C: number()}
		for name, x := range c.all() {
			if x.e != api.OK && !isZero(x.value) {
				t.Error(name, x)
			}
		}
	}
}

// Very long lists are told by their first numbers.
func TestP1Long(t *testing.T) {
	long := make([]int, 1<<20)
	for i := range long {
		long[i] = i
	}
	wantErr(t, "hands", stand.CheckRest(rows(), first(), api.Rest{Hands: long}), api.ErrRest)
	_, e := stand.Excess(rows(), first(), rest(0), long)
	wantErr(t, "set", e, api.ErrArg)
	_, e = stand.Supports(rows(), first(), rest(0), long)
	wantErr(t, "part", e, api.ErrArg)
	wantErr(t, "loads", stand.CheckLoads(rows(), first(), rest(0), make([]api.Load, 1<<20)), api.ErrProof)
	wantErr(t, "bricks", stand.CheckRest(rows(), api.Model{Bricks: make([]api.Brick, 1<<20)}, rest(0)), api.ErrMany)
}
