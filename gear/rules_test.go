package gear_test

import (
	"math/rand"
	"reflect"
	"slices"
	"testing"

	"studwork/api"
	"studwork/gear"
)

// roomy returns a copy of a list with memory after its end, all of it filled.
func roomy[T any](l []T, fill T) []T {
	all := append(slices.Clone(l), fill, fill, fill)
	return all[:len(l)]
}

// call is the arguments of all functions.
type call struct {
	t             api.Train
	mesh, in, out int
	num, den      int
	clutches      []int
	p             api.GearProof
	ticks         int
	pistons       []api.Piston
}

func (c call) all() map[string]result {
	results := withTrain(c.t, c.mesh, c.in, c.out, c.num, c.den, c.clutches, c.p)
	results["Cycle"] = cycle(c.pistons)
	for i, p := range c.pistons {
		name := string(rune('0' + i))
		results["CheckPiston"+name] = result{0, gear.CheckPiston(p)}
		results["Places"+name] = of(gear.Places(p, c.ticks))
	}
	return results
}

// roomy returns the arguments in slices that all have memory after their ends.
func (c call) roomy() call {
	c.t.Meshes = roomy(c.t.Meshes, clutch(0, 1))
	c.clutches = roomy(c.clutches, 99)
	c.p.Factors, c.p.Motion, c.p.Slip = roomy(c.p.Factors, 98), roomy(c.p.Motion, 97), roomy(c.p.Slip, 96)
	c.pistons = roomy(c.pistons, piston(1, 2, 3))
	for i, p := range c.pistons {
		c.pistons[i].Lift = roomy(p.Lift, 95)
	}
	return c
}

// whole copies the arguments to the ends of their memory.
func (c call) whole() call {
	c.t.Meshes = slices.Clone(c.t.Meshes[:cap(c.t.Meshes)])
	c.clutches = slices.Clone(c.clutches[:cap(c.clutches)])
	c.p.Factors = slices.Clone(c.p.Factors[:cap(c.p.Factors)])
	c.p.Motion = slices.Clone(c.p.Motion[:cap(c.p.Motion)])
	c.p.Slip = slices.Clone(c.p.Slip[:cap(c.p.Slip)])
	c.pistons = slices.Clone(c.pistons[:cap(c.pistons)])
	for i, p := range c.pistons {
		c.pistons[i].Lift = slices.Clone(p.Lift[:cap(p.Lift)])
	}
	return c
}

// someCalls returns arguments for which some functions have results, and some have errors.
func someCalls(rnd *rand.Rand) []call {
	var calls []call
	for range 200 {
		c := call{t: randomClutches(rnd, 6, 12), ticks: rnd.Intn(50)}
		c.mesh, c.in, c.out = rnd.Intn(len(c.t.Meshes)), rnd.Intn(c.t.Shafts), rnd.Intn(c.t.Shafts)
		c.num, c.den, c.p, _ = gear.Ratio(c.t, c.in, c.out)
		c.clutches, _ = gear.Slips(c.t, c.in)
		for range 1 + rnd.Intn(3) {
			c.pistons = append(c.pistons, randomPiston(rnd))
		}
		calls = append(calls, c)
	}
	return calls
}

// slicesOf calls a function with all slices in a value.
func slicesOf(v reflect.Value, do func(reflect.Value)) {
	switch v.Kind() {
	case reflect.Interface:
		slicesOf(v.Elem(), do)
	case reflect.Struct:
		for i := range v.NumField() {
			slicesOf(v.Field(i), do)
		}
	case reflect.Slice:
		do(v)
	}
}

// R3: arguments are only read, also after the ends of their slices.
func TestP1ArgumentsAreRead(t *testing.T) {
	for _, c := range someCalls(rand.New(rand.NewSource(41))) {
		c = c.roomy()
		before := c.whole()
		c.all()
		if after := c.whole(); !reflect.DeepEqual(before, after) {
			t.Fatal("arguments changed", before, after)
		}
	}
}

// R3: what is done to a result changes neither the arguments nor the next result.
func TestP1ResultsAreNew(t *testing.T) {
	for _, c := range someCalls(rand.New(rand.NewSource(42))) {
		c = c.roomy()
		before, want := c.whole(), c.all()
		for _, r := range c.all() {
			slicesOf(reflect.ValueOf(r.value), func(l reflect.Value) { l.Slice(0, l.Cap()).Clear() })
		}
		if got := c.all(); !reflect.DeepEqual(got, want) {
			t.Fatal("results changed", got, want)
		}
		if after := c.whole(); !reflect.DeepEqual(before, after) {
			t.Fatal("arguments changed", before, after)
		}
	}
}

// R3: what is done to one list of a proof changes none of the others.
func TestP1ListsOfProofsAreApart(t *testing.T) {
	for _, c := range someCalls(rand.New(rand.NewSource(43))) {
		_, _, p, _ := gear.Ratio(c.t, c.in, c.out)
		lists := []*[]int{&p.Factors, &p.Motion, &p.Slip}
		for i, l := range lists {
			for j, other := range lists {
				before := slices.Clone(*other)
				room := (*l)[:cap(*l)]
				for k := range room {
					room[k]++
				}
				if i != j && !slices.Equal(before, *other) {
					t.Fatal(c.t, i, j)
				}
			}
		}
	}
}

// R4: nil and empty slices are the same.
func TestP1NilAndEmpty(t *testing.T) {
	none := call{t: train(2), den: 1, p: proof(nil, []int{1, 0}, []int{0, 1}), out: 1}
	other := none
	other.t.Meshes, other.clutches, other.p.Factors, other.pistons = []api.Mesh{}, []int{}, []int{}, []api.Piston{}
	wantSame(t, none, other)
	jam := call{t: three(), p: proof([]int{1, -1, 1}, nil, nil), pistons: []api.Piston{{}}}
	other = jam
	other.p.Motion, other.p.Slip, other.pistons = []int{}, []int{}, []api.Piston{{Lift: []int{}}}
	wantSame(t, jam, other)
	wantErr(t, "jam", gear.CheckJam(three(), 0, other.p), api.OK)
}

func wantSame(t *testing.T, a, b call) {
	t.Helper()
	theirs := b.all()
	for name, x := range a.all() {
		y := theirs[name]
		if x.e != y.e || !(isZero(x.value) && isZero(y.value) || reflect.DeepEqual(x.value, y.value)) {
			t.Error(name, x, y)
		}
	}
}

// The same arguments always have the same results.
func TestP1SameResults(t *testing.T) {
	for _, c := range someCalls(rand.New(rand.NewSource(44))) {
		want := c.all()
		for range 3 {
			if got := c.all(); !reflect.DeepEqual(got, want) {
				t.Fatal(got, want)
			}
		}
	}
}

// R2: together with an error there is nothing else, but for the proofs of ErrJam and ErrLoose.
func wantNothing(t *testing.T, results map[string]result) {
	t.Helper()
	for name, x := range results {
		if f, ok := x.value.(fraction); ok && (x.e == api.ErrJam || x.e == api.ErrLoose) {
			f.p = api.GearProof{}
			x.value = f
		}
		if x.e != api.OK && !isZero(x.value) {
			t.Error(name, x)
		}
	}
}

// R2 and R5 to R7: numbers of any size lead to an error or a result, and never to a panic.
func TestP1Anything(t *testing.T) {
	rnd := rand.New(rand.NewSource(45))
	number := func() int {
		if rnd.Intn(8) == 0 {
			return extremes[rnd.Intn(len(extremes))]
		}
		return rnd.Intn(5) - 1
	}
	numbers := func(n int) []int {
		var l []int
		for range n {
			l = append(l, number())
		}
		return l
	}
	for range 5000 {
		c := call{t: randomTrain(rnd, 5, 8), mesh: number(), in: number(), out: number(), num: number(), den: number(), ticks: number()}
		if rnd.Intn(4) == 0 {
			c.t.Shafts = number()
			c.t.Meshes = append(c.t.Meshes, api.Mesh{Kind: uint8(number()), A: number(), B: number(), C: number(), N: number(), M: number()})
		}
		c.clutches = numbers(rnd.Intn(4))
		c.p = proof(numbers(len(c.t.Meshes)-rnd.Intn(2)), numbers(3), numbers(rnd.Intn(4)))
		for range rnd.Intn(3) {
			c.pistons = append(c.pistons, piston(number(), number(), numbers(rnd.Intn(4))...))
		}
		wantNothing(t, c.all())
	}
	for _, c := range someCalls(rnd) {
		wantNothing(t, c.all())
	}
}

// Very long lists are told by their lengths or their first numbers.
func TestP1Long(t *testing.T) {
	long := make([]int, 1<<20)
	wantErr(t, "meshes", gear.Check(train(2, make([]api.Mesh, 1<<20)...)), api.ErrTrain)
	wantErr(t, "factors", gear.CheckRatio(first(), 0, 1, 1, 1, proof(long, []int{3, -1, 1}, nil)), api.ErrProof)
	wantErr(t, "motion", gear.CheckLoose(cage(), 0, 1, proof(nil, long, long)), api.ErrProof)
	wantErr(t, "jam", gear.CheckJam(three(), 0, proof(long, nil, nil)), api.ErrProof)
	_, e := gear.Open(train(2, clutch(0, 1)), long)
	wantErr(t, "clutches", e, api.ErrArg)
	wantErr(t, "lift", gear.CheckPiston(piston(1, 1, long...)), api.ErrArg)
	_, _, e = gear.Cycle(make([]api.Piston, 1<<20))
	wantErr(t, "pistons", e, api.ErrMany)
}
