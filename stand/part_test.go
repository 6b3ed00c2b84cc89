package stand_test

import (
	"math/rand"
	"slices"
	"testing"

	"studwork/api"
	"studwork/stand"
)

func at(x, y int) api.Support { return api.Support{X: x, Y: y} }

func pulls(x, y, pull int) api.Support { return api.Support{X: x, Y: y, Pull: pull} }

func wantList(t *testing.T, what any, l []api.Kind, m api.Model, r api.Rest, part []int, want ...api.Support) {
	t.Helper()
	s, e := stand.Supports(l, m, r, part)
	wantErr(t, what, e, api.OK)
	same(t, what, s, want)
}

func TestP3_3SupportsExample(t *testing.T) {
	wantList(t, "example", rows(), first(), rest(0), []int{1}, at(3, -1), at(5, -1), pulls(4, 0, 20), at(3, 1), at(5, 1))
}

func TestP3_3Supports(t *testing.T) {
	cube := []api.Kind{smooth(1, cell(0, 0, 0))}
	two := model(brick(0, -4, 3, 0, 0), brick(0, -4, 3, 1, 0))
	corners := []api.Support{at(-9, 5), at(-7, 5), at(-9, 7), at(-7, 7)}
	wantList(t, "on the table", cube, two, rest(0), []int{0}, corners...)
	wantList(t, "on another one", cube, two, rest(-1), []int{1}, corners...)
	wantList(t, "in the air", cube, two, rest(-1), []int{0})
	// What is in the part carries nothing for it.
	wantList(t, "both in the air", cube, two, rest(-1), []int{0, 1})
	wantList(t, "both", cube, two, rest(0), []int{0, 1}, corners...)
	// A hand has the middle, and all corners.
	wantList(t, "in a hand", cube, two, rest(-1, 0), []int{0}, at(-9, 5), at(-7, 5), at(-8, 6), at(-9, 7), at(-7, 7))
	wantList(t, "not in a hand", cube, two, rest(-1, 0), []int{1}, corners...)
	// Each is counted as often as it occurs: here the brick is in a hand, and on the table.
	wantList(t, "twice", cube, two, rest(0, 0), []int{0}, at(-9, 5), at(-9, 5), at(-7, 5), at(-7, 5), at(-8, 6), at(-9, 7), at(-9, 7), at(-7, 7), at(-7, 7))
}

// A hand's middle is that of the least and greatest places, whatever is between.
func TestP3_3Middle(t *testing.T) {
	corner := []api.Kind{smooth(1, cell(0, 0, 0), cell(0, 1, 0), cell(0, 0, 1), cell(5, 0, 1))}
	var want []api.Support
	for _, c := range []api.Cell{cell(10, 20, 0), cell(10, 21, 0), cell(10, 20, 1), cell(15, 20, 1)} {
		want = append(want, wantCorners(c)...)
	}
	want = append(want, at(25, 41))
	sortSupports(want)
	wantList(t, "corner", corner, model(brick(0, 10, 20, 0, 0)), rest(-1, 0), []int{0}, want...)
}

// Links pull whatever their direction is, by their own strengths, also where the other brick is above.
func TestP3_3Pulls(t *testing.T) {
	for sort, want := range map[uint8]int{1: 20, 3: 30, 5: 50} {
		odd, even := smooth(1, cell(0, 0, 0)), smooth(1, cell(0, 0, 0))
		odd.Knobs = []api.Knob{knob(0, 0, 0, 0, sort)}
		even.Knobs = []api.Knob{knob(0, 0, 0, 1, sort+1)}
		l, m := []api.Kind{odd, even}, model(brick(0, 4, 7, 1, 0), brick(1, 5, 7, 1, 0))
		for _, part := range [][]int{{0}, {1}} {
			wantList(t, sort, l, m, rest(0), part, pulls(9, 14, want))
		}
		wantList(t, sort, l, m, rest(0), []int{0, 1})
	}
	wantList(t, "hanging", rows(), hanging(), rest(-1, 0), []int{1}, pulls(4, 0, 20))
	three := model(append(third().Bricks, brick(0, 6, 0, 1, 0))...)
	wantList(t, "from both sides", rows(), three, rest(-1), []int{2}, at(7, -1), at(9, -1), at(11, -1), at(13, -1), pulls(8, 0, 20), pulls(12, 0, 20), at(7, 1), at(9, 1), at(11, 1), at(13, 1))
}

// At one place the supports without a pull come first, and then those with lesser ones.
func TestP3_3Order(t *testing.T) {
	mid := smooth(1, cell(0, 0, 0), cell(1, 0, 0), cell(2, 0, 0))
	mid.Knobs = []api.Knob{knob(1, 0, 0, 4, 5), knob(1, 0, 0, 5, 2)}
	low, high := smooth(1, cell(0, 0, 0)), smooth(1, cell(0, 0, 0))
	low.Knobs, high.Knobs = []api.Knob{knob(0, 0, 0, 4, 1)}, []api.Knob{knob(0, 0, 0, 5, 6)}
	m := model(brick(0, 0, 0, 1, 0), brick(1, 1, 0, 2, 0), brick(2, 1, 0, 0, 0))
	l := []api.Kind{mid, high, low}
	want := []api.Support{at(-1, -1), at(1, -1), at(1, -1), at(1, -1), at(3, -1), at(3, -1), at(3, -1), at(5, -1), at(2, 0), pulls(2, 0, 20), pulls(2, 0, 50)}
	for _, x := range []int{-1, 1, 1, 1, 3, 3, 3, 5} {
		want = append(want, at(x, 1))
	}
	wantList(t, "order", l, m, rest(0, 0), []int{0}, want...)
}

func TestP3_3SupportsOfAnyParts(t *testing.T) {
	rnd := rand.New(rand.NewSource(33))
	for range 100 {
		l := randomKinds(rnd)
		m := randomModel(rnd, l, 12)
		r := randomRest(rnd, l, m)
		for range 5 {
			part := randomPart(rnd, len(m.Bricks))
			wantList(t, part, l, m, r, part, wantSupports(l, m, r, part)...)
		}
	}
}

// The part has at least one brick, here in contrast to the set of Excess.
func TestP3_3ErrArg(t *testing.T) {
	bad := [][]int{nil, {}, {2}, {0, 2}, {1, 0}, {0, 0}, {1, 1}, {0, 1, 1}, {0, 1, 2}}
	for _, n := range extremes {
		bad = append(bad, []int{n}, []int{0, n}, []int{n, 1}, []int{n, n})
	}
	for _, part := range bad {
		for _, p := range []api.Poise{{}, {Balanced: true}, {A: 1, C: -10000}} {
			allFail(t, part, map[string]result{
				"Supports":   of(stand.Supports(rows(), first(), rest(0), part)),
				"Balance":    of(stand.Balance(rows(), first(), rest(0), part)),
				"CheckPoise": {0, stand.CheckPoise(rows(), first(), rest(0), part, p)},
			}, api.ErrArg)
		}
	}
	allFail(t, "no bricks", map[string]result{"Balance": of(stand.Balance(nil, model(), rest(0), nil))}, api.ErrArg)
}

// The places of supports may be as far as the cells of a turned brick are.
func TestP3_3FarSupports(t *testing.T) {
	long := []api.Kind{bar(16, 100)}
	m := model(brick(0, 1000, 1000, 0, 0), brick(0, -1000, -1000, 0, 2))
	s, e := stand.Supports(long, m, rest(0), []int{0, 1})
	if e != api.OK || len(s) != 128 || s[0] != at(-2031, -2001) || s[127] != at(2031, 2001) {
		t.Error(s, e)
	}
	p, e := stand.Balance(long, m, rest(0), []int{0, 1})
	if e != api.OK || !p.Balanced || !wantRight(long, m, rest(0), []int{0, 1}, p) {
		t.Error(p, e)
	}
	// Without the table under it, the one in the middle tips over a very long line.
	m.Bricks = append(m.Bricks, brick(0, 500, -900, 1, 0))
	p, e = stand.Balance(long, m, rest(0, 0, 1), []int{0, 1, 2})
	if e != api.OK || !wantRight(long, m, rest(0, 0, 1), []int{0, 1, 2}, p) {
		t.Error(p, e)
	}
	one := model(brick(0, 1000, 0, 1, 0), brick(0, -1000, 0, 0, 2))
	p, e = stand.Balance(long, one, rest(0), []int{0, 1})
	if e != api.OK || p.Balanced || !wantRight(long, one, rest(0), []int{0, 1}, p) {
		t.Error(p, e)
	}
	wantErr(t, "far", stand.CheckPoise(long, one, rest(0), []int{0, 1}, p), api.OK)
}

// Parts of many bricks have very many supports.
func TestP3_3ManySupports(t *testing.T) {
	l := []api.Kind{bar(15, 100), bar(15, 1)}
	var m api.Model
	var hands []int
	for i := range 40 {
		m.Bricks = append(m.Bricks, brick(i%2, 0, i/2, i%2, 0))
		hands = append(hands, i)
	}
	odd := slices.DeleteFunc(slices.Clone(hands), func(i int) bool { return i%2 == 0 })
	s, e := stand.Supports(l, m, rest(0, hands...), odd)
	wantErr(t, "many", e, api.OK)
	same(t, "many", s, wantSupports(l, m, rest(0, hands...), odd))
	if len(s) != 20*(15*4+15*4+15+1) {
		t.Error(len(s))
	}
}
