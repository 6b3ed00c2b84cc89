package hinge_test

import (
	"math/rand"
	"reflect"
	"slices"
	"testing"

	"studwork/api"
	"studwork/hinge"
)

// roomy returns a copy of a list with memory after its end, all of it filled.
func roomy[T any](l []T, fill T) []T {
	all := append(slices.Clone(l), fill, fill, fill)
	return all[:len(l)]
}

// call is the arguments of all functions.
type call struct {
	n    int
	l    api.Linkage
	i, k int
	a, b api.Spot
	p    api.Apart
}

func (c call) all() map[string]result {
	results := withLinkage(c.l, c.i, c.k, c.a, c.b, c.p)
	results["Angle"] = angle(c.n)
	for i, p := range c.l.Panels {
		results["CheckPanel"+string(rune('0'+i))] = result{0, hinge.CheckPanel(p)}
	}
	return results
}

// roomy returns the arguments in slices that all have memory after their ends.
func (c call) roomy() call {
	c.l.Panels = roomy(c.l.Panels, triangle())
	for i, p := range c.l.Panels {
		c.l.Panels[i] = roomy(p, spot(99, 98))
	}
	c.l.Hinges = roomy(c.l.Hinges, joint(97, 96, 95, 94, 93))
	c.p.Inside = roomy(c.p.Inside, 92)
	return c
}

// whole copies the arguments to the ends of their memory.
func (c call) whole() call {
	c.l.Panels = slices.Clone(c.l.Panels[:cap(c.l.Panels)])
	for i, p := range c.l.Panels {
		c.l.Panels[i] = slices.Clone(p[:cap(p)])
	}
	c.l.Hinges = slices.Clone(c.l.Hinges[:cap(c.l.Hinges)])
	c.p.Inside = slices.Clone(c.p.Inside[:cap(c.p.Inside)])
	return c
}

// someCalls returns arguments for which some functions have results, and some have errors.
func someCalls(rnd *rand.Rand) []call {
	var calls []call
	for range 60 {
		c := call{n: rnd.Intn(36), l: randomLinkage(rnd, 2+rnd.Intn(2)), a: randomSpot(rnd, 50)}
		if rnd.Intn(2) == 0 {
			c.l, c.a, c.b = randomLoop(rnd, 1+rnd.Intn(2))
		}
		c.i = rnd.Intn(len(c.l.Panels))
		c.k = rnd.Intn(len(c.l.Panels))
		c.p, _ = hinge.Clash(c.l, c.i, c.k)
		calls = append(calls, c)
	}
	return calls
}

// slicesOf calls a function with all slices in a value.
func slicesOf(v reflect.Value, do func(reflect.Value)) {
	switch v.Kind() {
	case reflect.Interface:
		slicesOf(v.Elem(), do)
	case reflect.Struct:
		for i := range v.NumField() {
			slicesOf(v.Field(i), do)
		}
	case reflect.Slice:
		do(v)
	}
}

// R3: arguments are only read, also after the ends of their slices; what is done to a result changes neither them nor the next result.
func TestP1ArgumentsAndResults(t *testing.T) {
	for _, c := range someCalls(rand.New(rand.NewSource(41))) {
		c = c.roomy()
		before, want := c.whole(), c.all()
		if after := c.whole(); !reflect.DeepEqual(before, after) {
			t.Fatal("arguments changed", before, after)
		}
		for _, r := range c.all() {
			slicesOf(reflect.ValueOf(r.value), func(l reflect.Value) { l.Slice(0, l.Cap()).Clear() })
		}
		if got := c.all(); !reflect.DeepEqual(got, want) {
			t.Fatal("results changed", got, want)
		}
		if after := c.whole(); !reflect.DeepEqual(before, after) {
			t.Fatal("results share memory with arguments", before, after)
		}
	}
}

// R4: nil and empty slices are the same.
func TestP1NilAndEmpty(t *testing.T) {
	for _, x := range [][2]call{
		{{}, {l: api.Linkage{Panels: []api.Panel{}, Hinges: []api.Hinge{}}}},
		{{l: chain()}, {l: linkage([]api.Panel{square()}, []api.Hinge{}...)}},
		{{l: linkage([]api.Panel{nil})}, {l: linkage([]api.Panel{{}})}},
		{{l: two(3), k: 1, p: line(1, 0, 4, 1)}, {l: two(3), k: 1, p: api.Apart{Clear: true, A: 1, C: 4, E: 1, Inside: []int{}}}},
		{{l: two(2), k: 1}, {l: two(2), k: 1, p: api.Apart{Inside: []int{}}}},
	} {
		theirs := x[1].all()
		for name, mine := range x[0].all() {
			other := theirs[name]
			if mine.e != other.e || !(isZero(mine.value) && isZero(other.value) || reflect.DeepEqual(mine.value, other.value)) {
				t.Error(name, mine, other)
			}
		}
	}
}

// R2: together with an error there is nothing else, but for the proof of ErrClash.
func wantNothing(t *testing.T, c call) {
	t.Helper()
	for name, x := range c.all() {
		if name == "Clash" && x.e == api.ErrClash {
			continue
		}
		if x.e != api.OK && !isZero(x.value) {
			t.Error(name, c, x)
		}
	}
}

// R2 and R5 to R7: numbers of any size lead to an error or a result, and never to a panic.
func TestP1Anything(t *testing.T) {
	rnd := rand.New(rand.NewSource(42))
	number := func() int {
		if rnd.Intn(8) == 0 {
			return extremes[rnd.Intn(len(extremes))]
		}
		return rnd.Intn(6) - 1
	}
	place := func() api.Spot { return spot(number(), number()) }
	for n := range 1500 {
		c := call{n: number(), l: randomLinkage(rnd, 1+rnd.Intn(3)), i: number(), k: number(), a: place(), b: place()}
		c.p = api.Apart{Clear: n%2 == 0, A: number(), B: number(), C: number(), E: number()}
		for range rnd.Intn(9) {
			c.p.Inside = append(c.p.Inside, number())
		}
		switch rnd.Intn(4) {
		case 0:
			p := c.l.Panels[rnd.Intn(len(c.l.Panels))]
			p[rnd.Intn(len(p))] = place()
		case 1:
			c.l.Hinges = append(c.l.Hinges, api.Hinge{A: place(), B: place(), Angle: number()})
		case 2:
			c.l.Hinges = append(c.l.Hinges, api.Hinge{A: place(), B: place(), Angle: number()})
			c.l.Panels = append(c.l.Panels, api.Panel{place(), place(), place()})
		}
		wantNothing(t, c)
	}
	for _, c := range someCalls(rnd) {
		wantNothing(t, c)
	}
}

// Very long lists are told by their lengths.
func TestP1Long(t *testing.T) {
	const many = 1 << 20
	wantErr(t, "corners", hinge.CheckPanel(make(api.Panel, many)), api.ErrPanel)
	wantErr(t, "panels", hinge.Check(linkage(make([]api.Panel, many), make([]api.Hinge, many-1)...)), api.ErrPanel)
	wantErr(t, "hinges", hinge.Check(linkage([]api.Panel{square()}, make([]api.Hinge, many)...)), api.ErrPanel)
	wantErr(t, "inside", hinge.CheckApart(two(2), 0, 1, api.Apart{Inside: make([]int, many)}), api.ErrProof)
	wantErr(t, "a line", hinge.CheckApart(two(3), 0, 1, api.Apart{Clear: true, A: 1, C: 4, E: 1, Inside: make([]int, many)}), api.ErrProof)
}
