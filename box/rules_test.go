package box_test

import (
	"math/rand"
	"reflect"
	"slices"
	"testing"

	"studwork/api"
	"studwork/box"
)

// roomy returns a copy of a list with memory after its end, all of it filled.
func roomy[T any](l []T, fill T) []T {
	all := append(slices.Clone(l), fill, fill, fill)
	return all[:len(l)]
}

// roomyAll does the same with a list of lists, and all of these.
func roomyAll[T any](l [][]T, fill T) [][]T {
	l = roomy(l, list(fill))
	for i, x := range l {
		l[i] = roomy(x, fill)
	}
	return l
}

// roomy returns the arguments in slices that all have memory after their ends.
func (c call) roomy() call {
	c.a = roomy(c.a, item(9, 9, 9))
	c.b = roomy(c.b, item(9, 9, 9))
	c.swaps = roomy(c.swaps, swap(9, 9, 8, 8))
	c.uses = roomy(c.uses, use(9, 9, 9))
	c.counts = roomy(c.counts, 9)
	c.prices = roomy(c.prices, price(9, 9, 9))
	c.plans = roomyAll(c.plans, item(9, 9, 9))
	c.values = roomy(c.values, 9)
	c.wishes = roomyAll(c.wishes, 9)
	c.trade = roomy(c.trade, 9)
	return c
}

func whole[T any](l []T) []T { return slices.Clone(l[:cap(l)]) }

func wholeAll[T any](l [][]T) [][]T {
	l = whole(l)
	for i, x := range l {
		l[i] = whole(x)
	}
	return l
}

// whole copies the arguments to the ends of their memory.
func (c call) whole() call {
	c.a, c.b = whole(c.a), whole(c.b)
	c.swaps, c.uses, c.counts, c.prices = whole(c.swaps), whole(c.uses), whole(c.counts), whole(c.prices)
	c.plans, c.values = wholeAll(c.plans), whole(c.values)
	c.wishes, c.trade = wholeAll(c.wishes), whole(c.trade)
	return c
}

// someCalls returns arguments for which some functions have results, and some have errors.
func someCalls(r *rand.Rand) []call {
	var calls []call
	for range 300 {
		c := randomPurchase(r, 6)
		f, _ := box.Buy(c.a, c.b, c.swaps, c.prices)
		if c.counts = f.Filled; len(c.counts) == 0 {
			c.counts = make([]int, len(c.b))
		}
		c.uses, _ = box.Uses(c.a, c.b, c.swaps, c.counts)
		c.plans, c.values = randomPlans(r, 5)
		n := 1 + r.Intn(8)
		c.wishes, c.trade, c.group = randomWishes(r, n), r.Perm(n), uint8(1+r.Intn(1<<n-1))
		calls = append(calls, c)
	}
	return calls
}

// slicesOf calls a function with all slices in a value.
func slicesOf(v reflect.Value, do func(reflect.Value)) {
	switch v.Kind() {
	case reflect.Struct:
		for i := range v.NumField() {
			slicesOf(v.Field(i), do)
		}
	case reflect.Slice:
		do(v)
	}
}

// R3: arguments are only read, also after the ends of their slices; what is done to a result changes neither them nor the next result.
func TestP1ArgumentsAndResults(t *testing.T) {
	for _, c := range someCalls(rand.New(rand.NewSource(51))) {
		c = c.roomy()
		before, want := c.whole(), c.all()
		if after := c.whole(); !reflect.DeepEqual(before, after) {
			t.Fatal("arguments changed", before, after)
		}
		for _, r := range c.all() {
			slicesOf(reflect.ValueOf(r.value), func(l reflect.Value) { l.Slice(0, l.Cap()).Clear() })
		}
		if got := c.all(); !reflect.DeepEqual(got, want) {
			t.Fatal("results changed", got, want)
		}
		if after := c.whole(); !reflect.DeepEqual(before, after) {
			t.Fatal("results share memory with arguments", before, after)
		}
	}
}

// R4: nil and empty slices are the same.
func TestP1NilAndEmpty(t *testing.T) {
	none := call{
		a: []api.Item{}, b: []api.Item{}, swaps: []api.Swap{}, uses: []api.Use{}, counts: []int{}, prices: []api.Price{},
		plans: [][]api.Item{}, values: []int{}, wishes: [][]int{}, trade: []int{},
	}
	some := none
	some.a, some.b = one(3), one(3)
	for _, x := range [][2]call{
		{{}, none},
		{{a: one(3), b: one(3)}, some},
		{{plans: list[[]api.Item](nil), values: list(1)}, {plans: list([]api.Item{}), values: list(1)}},
		{{wishes: list[[]int](nil)}, {wishes: list([]int{})}},
	} {
		theirs := x[1].all()
		for name, mine := range x[0].all() {
			other := theirs[name]
			if mine.e != other.e || !isEmpty(mine.value) && !reflect.DeepEqual(mine.value, other.value) || isEmpty(mine.value) != isEmpty(other.value) {
				t.Error(name, mine, other)
			}
		}
	}
}

// R2: together with an error there is nothing else.
func wantNothing(t *testing.T, c call) {
	t.Helper()
	for name, x := range c.all() {
		if x.e != api.OK && !isEmpty(x.value) {
			t.Error(name, c, x)
		}
	}
}

// R2 and R5 to R7: numbers of any size lead to an error or a result, and never to a panic.
func TestP1Anything(t *testing.T) {
	r := rand.New(rand.NewSource(52))
	number := func() int {
		if r.Intn(9) == 0 {
			return extremes[r.Intn(len(extremes))]
		}
		return r.Intn(5) - 1
	}
	color := func() uint8 { return uint8(number()) }
	for _, c := range slices.Repeat(someCalls(r), 20) {
		wantNothing(t, c)
		c = c.roomy()
		switch r.Intn(8) {
		case 0:
			c.a = append(c.a, item(number(), color(), number()))
		case 1:
			c.b = append(c.b, item(number(), color(), number()))
		case 2:
			c.swaps = append(c.swaps, swap(number(), color(), number(), color()))
		case 3:
			c.prices = append(c.prices, price(number(), color(), number()))
		case 4:
			c.plans = append(c.plans, list(item(number(), color(), number())))
			c.values = append(c.values, number())
		case 5:
			c.wishes[r.Intn(len(c.wishes))][0] = number()
		case 6:
			c.trade[0] = number()
		}
		for range r.Intn(3) {
			c.uses = append(c.uses, use(number(), number(), number()))
			if len(c.counts) > 0 {
				c.counts[r.Intn(len(c.counts))] = number()
			}
		}
		c.group = color()
		wantNothing(t, c)
	}
}

// The same arguments always have the same results.
func TestP1SameResults(t *testing.T) {
	for _, c := range someCalls(rand.New(rand.NewSource(53))) {
		want := c.all()
		for range 3 {
			if got := c.all(); !reflect.DeepEqual(got, want) {
				t.Fatal(got, want)
			}
		}
	}
}

// Very long lists are told by their lengths, or by their first numbers.
func TestP1Long(t *testing.T) {
	const many = 1 << 20
	long := call{a: make([]api.Item, many), b: make([]api.Item, many), plans: make([][]api.Item, many)}
	allFail(t, "stocks", long.ofStocks(), api.ErrBad)
	allFail(t, "swaps", call{swaps: make([]api.Swap, many)}.ofSwaps(), api.ErrArg)
	allFail(t, "plans", call{plans: long.plans, values: make([]int, many)}.ofPlans(), api.ErrMany)
	allFail(t, "values", call{values: make([]int, many)}.ofPlans(), api.ErrArg)
	allFail(t, "wishes", call{wishes: make([][]int, many)}.ofWishes(), api.ErrArg)
	results := call{uses: make([]api.Use, many), counts: make([]int, many), prices: make([]api.Price, many)}.ofSwaps()
	wantErr(t, "uses", results["CheckUses"].e, api.ErrBad)
	wantErr(t, "counts", results["Uses"].e, api.ErrArg)
	wantErr(t, "prices", results["Buy"].e, api.ErrArg)
}
