package steps_test

import (
	"math/rand"
	"reflect"
	"slices"
	"testing"

	"studwork/api"
	"studwork/steps"
)

// roomy returns a copy of a list with memory after its end, all of it filled.
func roomy[T any](l []T, fill T) []T {
	all := append(slices.Clone(l), fill, fill, fill)
	return all[:len(l)]
}

// roomy returns the arguments in slices that all have memory after their ends.
func (c call) roomy() call {
	c.l = roomy(c.l, bar(2, 9))
	for i, k := range c.l {
		c.l[i].Cells = roomy(k.Cells, cell(9, 9, 9))
		c.l[i].Knobs = roomy(k.Knobs, knob(9, 9, 9, 5, 6))
	}
	c.m.Bricks = roomy(c.m.Bricks, brick(1, 9, 9, 9, 9))
	c.r.Hands = roomy(c.r.Hands, 99)
	c.there = roomy(c.there, 98)
	c.steps = roomy(c.steps, step(9))
	for i, x := range c.steps {
		c.steps[i].Puts = roomy(x.Puts, put(97, 9))
	}
	return c
}

// whole copies the arguments to the ends of their memory.
func (c call) whole() call {
	c.l = slices.Clone(c.l[:cap(c.l)])
	for i, k := range c.l {
		c.l[i].Cells = slices.Clone(k.Cells[:cap(k.Cells)])
		c.l[i].Knobs = slices.Clone(k.Knobs[:cap(k.Knobs)])
	}
	c.m.Bricks = slices.Clone(c.m.Bricks[:cap(c.m.Bricks)])
	c.r.Hands = slices.Clone(c.r.Hands[:cap(c.r.Hands)])
	c.there = slices.Clone(c.there[:cap(c.there)])
	c.steps = slices.Clone(c.steps[:cap(c.steps)])
	for i, x := range c.steps {
		c.steps[i].Puts = slices.Clone(x.Puts[:cap(x.Puts)])
	}
	return c
}

// someCalls returns arguments for which some functions have results, and some have errors.
func someCalls(rnd *rand.Rand) []call {
	var calls []call
	for range 60 {
		c := call{l: randomKinds(rnd), dir: rnd.Intn(6), most: 1 + rnd.Intn(8)}
		c.m = randomModel(rnd, c.l, 8)
		c.r = randomRest(rnd, c.l, c.m)
		c.brick = rnd.Intn(len(c.m.Bricks))
		c.there = slices.DeleteFunc(randomSet(rnd, len(c.m.Bricks)), func(i int) bool { return i == c.brick })
		c.steps, _ = steps.Find(c.l, c.m, c.r, c.most)
		calls = append(calls, c)
	}
	return calls
}

// slicesOf calls a function with all slices in a value, those inside of another one first.
func slicesOf(v reflect.Value, do func(reflect.Value)) {
	switch v.Kind() {
	case reflect.Struct:
		for i := range v.NumField() {
			slicesOf(v.Field(i), do)
		}
	case reflect.Slice:
		for i := range v.Len() {
			slicesOf(v.Index(i), do)
		}
		do(v)
	}
}

// R3: arguments are only read, also after the ends of their slices; what is done to a result changes neither them nor the next result.
func TestP1ArgumentsAndResults(t *testing.T) {
	for _, c := range someCalls(rand.New(rand.NewSource(41))) {
		c = c.roomy()
		before, want := c.whole(), c.all()
		if after := c.whole(); !reflect.DeepEqual(before, after) {
			t.Fatal("arguments changed", before, after)
		}
		for _, r := range c.all() {
			slicesOf(reflect.ValueOf(r.value), func(l reflect.Value) { l.Slice(0, l.Cap()).Clear() })
		}
		if got := c.all(); !reflect.DeepEqual(got, want) {
			t.Fatal("results changed", got, want)
		}
		if after := c.whole(); !reflect.DeepEqual(before, after) {
			t.Fatal("results share memory with arguments", before, after)
		}
	}
}

// R3: the puts of one step share no memory with those of another one.
func TestP1StepsAreApart(t *testing.T) {
	for most := 1; most <= 8; most++ {
		all, _ := steps.Find(rows(), tower(10), rest(0), most)
		want := copySteps(all)
		for i, x := range all {
			_ = append(x.Puts, slices.Repeat([]api.Put{put(99, 9)}, 10)...)
			clear(x.Puts[:cap(x.Puts)])
			sameSteps(t, most, all[i+1:], want[i+1:])
		}
	}
}

// R4: nil and empty slices are the same.
func TestP1NilAndEmpty(t *testing.T) {
	empty := cubes()
	empty[0].Knobs = []api.Knob{}
	one := model(brick(0, 0, 0, 0, 0))
	for _, x := range [][2]call{
		{{}, {l: []api.Kind{}, m: api.Model{Bricks: []api.Brick{}}, r: api.Rest{Hands: []int{}}, there: []int{}, steps: []api.Step{}}},
		{{most: 1}, {l: []api.Kind{}, m: api.Model{Bricks: []api.Brick{}}, most: 1, steps: []api.Step{}}},
		{{l: cubes(), m: one, most: 1}, {l: empty, m: one, r: api.Rest{Hands: []int{}}, there: []int{}, most: 1, steps: []api.Step{}}},
		{{l: cubes(), m: one, most: 1, steps: []api.Step{{}}}, {l: empty, m: one, most: 1, steps: []api.Step{{Puts: []api.Put{}}}}},
	} {
		theirs := x[1].all()
		for name, mine := range x[0].all() {
			other := theirs[name]
			if mine.e != other.e || !(isZero(mine.value) && isZero(other.value) || reflect.DeepEqual(mine.value, other.value)) {
				t.Error(name, mine, other)
			}
		}
	}
}

// R2: together with an error there is nothing else.
func wantNothing(t *testing.T, c call) {
	t.Helper()
	for name, x := range c.all() {
		if x.e != api.OK && !isZero(x.value) {
			t.Error(name, c, x)
		}
	}
}

// R2 and R5 to R7: numbers of any size lead to an error or a result, and never to a panic.
func TestP1Anything(t *testing.T) {
	rnd := rand.New(rand.NewSource(42))
	number := func() int {
		if rnd.Intn(6) == 0 {
			return extremes[rnd.Intn(len(extremes))]
		}
		return rnd.Intn(8) - 2
	}
	numbers := func() []int {
		var l []int
		for range rnd.Intn(4) {
			l = append(l, number())
		}
		return l
	}
	for range 2000 {
		c := call{l: randomKinds(rnd), r: api.Rest{Table: number(), Hands: numbers()}, there: numbers(), brick: number(), dir: number(), most: number()}
		switch rnd.Intn(3) {
		case 0:
			c.m = model(brick(number(), number(), number(), number(), uint8(number())), brick(0, number(), 0, 0, 0))
			c.l[0] = api.Kind{Cells: []api.Cell{cell(number(), 0, number())}, Weight: number()}
		case 1:
			c.m = first()
		default:
			c.m = randomModel(rnd, c.l, 4)
			c.r = randomRest(rnd, c.l, c.m)
		}
		for range rnd.Intn(4) {
			x := api.Step{View: uint8(number())}
			for range rnd.Intn(3) {
				x.Puts = append(x.Puts, put(number(), uint8(number())))
			}
			c.steps = append(c.steps, x)
		}
		wantNothing(t, c)
	}
	for _, c := range someCalls(rnd) {
		wantNothing(t, c)
	}
}

// The same arguments always have the same results.
func TestP1SameResults(t *testing.T) {
	for _, c := range someCalls(rand.New(rand.NewSource(43))) {
		want := c.all()
		for range 3 {
			if got := c.all(); !reflect.DeepEqual(got, want) {
				t.Fatal(got, want)
			}
		}
	}
}

// The greatest models there are: as many cells, knobs and kinds as may be, in all places.
func TestP1Greatest(t *testing.T) {
	big := api.Kind{Weight: 100}
	for x := range 12 {
		for y := range 2 {
			big.Cells = append(big.Cells, cell(x, y, 0))
			big.Knobs = append(big.Knobs, knob(x, y, 0, 4, 1), knob(x, y, 0, 5, 2))
		}
	}
	slices.SortFunc(big.Cells, func(a, b api.Cell) int { return 100*(a.Y-b.Y) + a.X - b.X })
	slices.SortFunc(big.Knobs, func(a, b api.Knob) int {
		return 1000*(a.At.Y-b.At.Y) + 10*(a.At.X-b.At.X) + int(a.Dir) - int(b.Dir)
	})
	l := slices.Repeat([]api.Kind{big}, 16)
	var m api.Model
	for i := range 40 {
		m.Bricks = append(m.Bricks, brick(i%16, -1000+15*(i%8), 1000-3*(i/8), -1000, 0))
	}
	var all []api.Step
	for i := range m.Bricks {
		all = append(all, step(5, put(i, 5)))
	}
	wantErr(t, "forty bricks", steps.Check(l, m, rest(-1000), 1, all), api.ErrView)
	waysAre(t, l, m, rest(-1000), upTo(39), 39, 1, 2, 5)
	m.Bricks = m.Bricks[:10]
	wantCount(t, l, m, rest(-1000), 3628800, upTo(10)...)
	high := model(brick(0, 1000, 1000, 1000, 0), brick(0, -1000, -1000, -1000, 0), brick(0, 1000, 1000, -1000, 0))
	wantCount(t, l, high, rest(-1000, 0), 6, 0, 1, 2)
	seenAre(t, l, high, upTo(3), 5, 0, 1)
	seenAre(t, l, high, upTo(3), 4, 1, 2)
}

// Very long lists are told by their first numbers.
func TestP1Long(t *testing.T) {
	const many = 1 << 20
	long := make([]int, many)
	for i := range long {
		long[i] = i
	}
	_, e := steps.Holds(rows(), first(), rest(0), long)
	wantErr(t, "there", e, api.ErrArg)
	_, e = steps.Ways(rows(), first(), rest(0), long, 0)
	wantErr(t, "there", e, api.ErrArg)
	_, e = steps.Seen(rows(), first(), long, 0)
	wantErr(t, "there", e, api.ErrArg)
	wantErr(t, "steps", steps.Check(rows(), first(), rest(0), 1, make([]api.Step, many)), api.ErrSteps)
	wantErr(t, "puts", steps.Check(rows(), first(), rest(0), 8, []api.Step{{Puts: make([]api.Put, many)}}), api.ErrSteps)
	_, e = steps.Count(rows(), api.Model{Bricks: make([]api.Brick, many)}, rest(0))
	wantErr(t, "bricks", e, api.ErrMany)
}
