package sort_test

import (
	"math/rand"
	"reflect"
	"slices"
	"testing"

	"studwork/api"
	"studwork/sort"
)

// roomy returns a copy of a list with memory after its end, all of it filled.
func roomy[T any](l []T, fill T) []T {
	all := append(slices.Clone(l), fill, fill, fill)
	return all[:len(l)]
}

// roomy returns the arguments in slices that all have memory after their ends.
func (c call) roomy() call {
	c.b.Gates, c.b.Bins = roomy(c.b.Gates, api.Gate{At: 99, Bin: 99}), roomy(c.b.Bins, 99)
	c.l = roomy(c.l, part(99, 9))
	for i, x := range c.l {
		c.l[i].Readings = roomy(x.Readings, 99)
	}
	c.swings = roomy(c.swings, goesOut(99, 9))
	c.readings = roomy(c.readings, 99)
	c.table = roomy(c.table, list(99))
	for i, row := range c.table {
		c.table[i] = roomy(row, 99)
	}
	c.counts, c.bins, c.passes = roomy(c.counts, 99), roomy(c.bins, 99), roomy(c.passes, 99)
	return c
}

func whole[T any](l []T) []T { return slices.Clone(l[:cap(l)]) }

// whole copies the arguments to the ends of their memory.
func (c call) whole() call {
	c.b.Gates, c.b.Bins = whole(c.b.Gates), whole(c.b.Bins)
	c.l = whole(c.l)
	for i, x := range c.l {
		c.l[i].Readings = whole(x.Readings)
	}
	c.swings, c.readings = whole(c.swings), whole(c.readings)
	c.table = whole(c.table)
	for i, row := range c.table {
		c.table[i] = whole(row)
	}
	c.counts, c.bins, c.passes = whole(c.counts), whole(c.bins), whole(c.passes)
	return c
}

// someCalls returns arguments for which most functions have results, and some have errors.
func someCalls(r *rand.Rand) []call {
	var calls []call
	for range 300 {
		kinds := 1 + r.Intn(8)
		c := call{b: randomBelt(r), table: randomTable(r, kinds), kind: r.Intn(kinds), n: 1 + r.Intn(5), width: 2 + r.Intn(7)}
		c.l = randomFed(r, c.b.Slow)
		if c.swings, _ = sort.Swings(c.b, c.l); r.Intn(3) == 0 {
			c.swings = randomSwings(r, c.b)
		}
		c.readings = randomNumbers(r, 1+r.Intn(9), -1, 4)
		c.counts, c.bins = randomNumbers(r, kinds, 0, 1000), randomNumbers(r, kinds, -1, 7)
		c.passes = randomNumbers(r, kinds, 0, 11)
		calls = append(calls, c)
	}
	return calls
}

// slicesOf calls a function with all slices in a value.
func slicesOf(v reflect.Value, do func(reflect.Value)) {
	switch v.Kind() {
	case reflect.Struct:
		for i := range v.NumField() {
			slicesOf(v.Field(i), do)
		}
	case reflect.Slice:
		do(v)
	}
}

// R3: arguments are only read, also after the ends of their slices; what is done to a result changes neither them nor the next result.
func TestP1ArgumentsAndResults(t *testing.T) {
	for _, c := range someCalls(rand.New(rand.NewSource(41))) {
		c = c.roomy()
		before, want := c.whole(), c.all()
		if after := c.whole(); !reflect.DeepEqual(before, after) {
			t.Fatal("arguments changed", before, after)
		}
		for _, r := range c.all() {
			slicesOf(reflect.ValueOf(r.value), func(l reflect.Value) { l.Slice(0, l.Cap()).Clear() })
		}
		if got := c.all(); !reflect.DeepEqual(got, want) {
			t.Fatal("results changed", got, want)
		}
		if after := c.whole(); !reflect.DeepEqual(before, after) {
			t.Fatal("results share memory with arguments", before, after)
		}
	}
}

// R4: nil and empty slices are the same.
func TestP1NilAndEmpty(t *testing.T) {
	none := call{
		l: []api.Fed{}, swings: []api.Swing{}, readings: []int{}, table: [][]int{},
		counts: []int{}, bins: []int{}, passes: []int{},
	}
	none.b.Gates, none.b.Bins = []api.Gate{}, []int{}
	bare, other := first(), first()
	bare.Gates, other.Gates = nil, []api.Gate{}
	for _, x := range [][2]call{
		{{}, none},
		{{b: bare}, {b: other, l: []api.Fed{}, swings: []api.Swing{}}},
		{{b: first(), l: ticks(0)}, {b: first(), l: ticks(0), swings: []api.Swing{}}},
		{{b: first(), l: make([]api.Fed, 1)}, {b: first(), l: list(api.Fed{Readings: []int{}})}},
		{{table: list[[]int](nil)}, {table: list([]int{})}},
	} {
		theirs := x[1].all()
		for name, mine := range x[0].all() {
			other := theirs[name]
			if mine.e != other.e || isEmpty(mine.value) != isEmpty(other.value) || !isEmpty(mine.value) && !reflect.DeepEqual(mine.value, other.value) {
				t.Error(name, mine, other)
			}
		}
	}
}

// R2: together with an error there is nothing else.
func wantNothing(t *testing.T, c call) {
	t.Helper()
	for name, x := range c.all() {
		if x.e != api.OK && !isEmpty(x.value) {
			t.Error(name, c, x)
		}
	}
}

// put changes one of some numbers, if there are any.
func put(r *rand.Rand, l []int, n int) {
	if len(l) > 0 {
		l[r.Intn(len(l))] = n
	}
}

// spoil changes something in arguments.
func spoil(r *rand.Rand, c *call) {
	number := func() int {
		if r.Intn(2) == 0 {
			return extremes[r.Intn(len(extremes))]
		}
		return r.Intn(20) - 2
	}
	switch r.Intn(9) {
	case 0:
		put(r, c.b.Bins, number())
	case 1:
		c.b.Length, c.b.Camera = number(), number()
	case 2:
		c.b.Slow = number()
	case 3:
		c.b.Gates = append(c.b.Gates, api.Gate{At: number(), Bin: number()})
	case 4:
		c.l = append(c.l, part(number(), number(), number()))
	case 5:
		c.swings = append(c.swings, api.Swing{Tick: number(), Gate: number(), Out: r.Intn(2) == 0})
	case 6:
		put(r, c.table[r.Intn(len(c.table))], number())
	case 7:
		c.kind, c.n, c.width = number(), number(), number()
	case 8:
		c.table = append(c.table, list(number(), number()))
	}
	put(r, list(c.counts, c.bins, c.passes, c.readings)[r.Intn(4)], number())
}

// R2 and R5 to R7: numbers of any size lead to an error or a result, and never to a panic.
func TestP1Anything(t *testing.T) {
	r := rand.New(rand.NewSource(42))
	for range 8 {
		for _, c := range someCalls(r) {
			wantNothing(t, c)
			c = c.roomy()
			for range 1 + r.Intn(3) {
				spoil(r, &c)
			}
			wantNothing(t, c)
		}
	}
}

// The same arguments always have the same results.
func TestP1SameResults(t *testing.T) {
	for _, c := range someCalls(rand.New(rand.NewSource(43))) {
		want := c.all()
		for range 3 {
			if got := c.all(); !reflect.DeepEqual(got, want) {
				t.Fatal(got, want)
			}
		}
	}
}

// Very long lists are told by their lengths, or by their first numbers.
func TestP1Long(t *testing.T) {
	const many = 1 << 20
	zeros := make([]int, many)
	c := call{b: first(), table: chart(), n: 1, counts: list(0, 0), bins: list(0, 0), width: 2}
	long := c
	long.b.Gates = make([]api.Gate, many)
	allFail(t, "gates", long.ofBelt(), api.ErrBelt)
	long = c
	long.b.Bins = zeros
	allFail(t, "bins of kinds", long.ofBelt(), api.ErrBelt)
	long = c
	long.l = make([]api.Fed, many)
	allFail(t, "parts", long.ofBelt(), api.ErrFed)
	long.l = list(api.Fed{Readings: zeros})
	allFail(t, "readings", long.ofBelt(), api.ErrFed)
	long = c
	long.table = make([][]int, many)
	allFail(t, "rows", long.ofTable(), api.ErrBad)
	long.table = list(zeros)
	allFail(t, "row", long.ofTable(), api.ErrBad)
	long = c
	long.counts, long.bins, long.passes = zeros, zeros, zeros
	allFail(t, "counts", long.ofPlans(), api.ErrArg)
	wantErr(t, "counts of a table", long.ofTable()["Wrong"].e, api.ErrArg)
	_, e := sort.Read(zeros)
	wantErr(t, "readings", e, api.ErrArg)
}

// There is no limit of how many swings a list has.
func TestP1ManySwings(t *testing.T) {
	b := first()
	b.Slow = 1
	var swings []api.Swing
	for i := range 1 << 20 {
		swings = append(swings, api.Swing{Tick: 2*i - 1000, Out: i%2 == 0})
	}
	for at, want := range map[int]api.Fate{1: fate(0, -1, 21), 3: fate(0, 0, 13), 999: fate(0, 0, 1009)} {
		l, e := sort.Run(b, ticks(at), swings)
		wantErr(t, at, e, api.OK)
		same(t, at, l, list(want))
	}
	_, e := sort.Run(b, ticks(3, 6), swings)
	wantErr(t, "moving", e, api.ErrMoving)
	swings[len(swings)-1].Out = true
	_, e = sort.Run(b, ticks(3), swings)
	wantErr(t, "the last one", e, api.ErrBad)
}
