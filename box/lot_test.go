package box_test

import (
	"math/rand"
	"slices"
	"testing"

	"studwork/api"
	"studwork/box"
)

// badWishes are lists that are no wishes.
func badWishes() [][][]int {
	nine := make([][]int, 9)
	for i := range nine {
		nine[i] = upTo(9)
	}
	l := [][][]int{
		nil,
		{},
		{nil},
		{{1}},
		{{-1}},
		{{0, 0}},
		{{0, 1}},
		{{0, 1}, {0}},
		{{0}, {0, 1}},
		{{0, 1}, {0, 0}},
		{{1, 1}, {0, 1}},
		{{0, 1}, {0, 2}},
		{{0, 1}, {0, 1, 2}},
		{{0, 1}, {-1, 0}},
		{{0, 1, 2}, {0, 1, 2}},
		{{0, 1}, {1, 0}, {0, 1}},
		{{0, 1, 2}, {1, 0, 3}, {0, 1, 2}},
		nine,
		append(nine[:7:7], nine[0][:8]),
		make([][]int, 8),
		make([][]int, 256),
	}
	for _, n := range append(extremes, 8, 256, 1<<32) {
		l = append(l, [][]int{{n}}, [][]int{{0, 1}, {n, 0}}, [][]int{{0, 1}, {0, n}})
	}
	return l
}

func TestP8_6Wishes(t *testing.T) {
	for _, l := range badWishes() {
		// Before what is wrong with a trade.
		for _, trade := range [][]int{nil, {0}, {0, 0}} {
			allFail(t, l, call{wishes: l, trade: trade, group: 1}.ofWishes(), api.ErrArg)
		}
	}
	for n := 1; n <= 8; n++ {
		c := call{wishes: slices.Repeat(list(upTo(n)), n), trade: upTo(n), group: 1}
		for name, x := range c.ofWishes() {
			wantErr(t, name, x.e, api.OK)
		}
	}
}

func trades(t *testing.T, wishes [][]int, want ...int) {
	t.Helper()
	l, e := box.Trade(wishes)
	wantErr(t, wishes, e, api.OK)
	same(t, wishes, l, want)
}

func TestP8_6Trade(t *testing.T) {
	trades(t, list(list(1, 0, 2), list(0, 1, 2), list(0, 1, 2)), 1, 0, 2)
	trades(t, list(list(0)), 0)
	trades(t, list(list(0, 1), list(0, 1)), 0, 1)
	trades(t, list(list(1, 0), list(0, 1)), 1, 0)
	trades(t, list(list(1, 0), list(1, 0)), 0, 1)
	// Circles of three, one of which leaves another one behind.
	trades(t, list(list(1, 0, 2), list(2, 1, 0), list(0, 1, 2)), 1, 2, 0)
	trades(t, list(list(1, 0, 2, 3), list(2, 1, 0, 3), list(1, 0, 2, 3), list(1, 2, 0, 3)), 0, 2, 1, 3)
	trades(t, list(list(1, 3, 0, 2), list(2, 1, 0, 3), list(1, 0, 2, 3), list(1, 2, 0, 3)), 3, 2, 1, 0)
	// All point to the first one, and then to the next one.
	trades(t, slices.Repeat(list(upTo(8)), 8), upTo(8)...)
	// One circle of all, and four of two.
	trades(t, turnedWishes(8, 1), 1, 2, 3, 4, 5, 6, 7, 0)
	trades(t, turnedWishes(8, 4), 4, 5, 6, 7, 0, 1, 2, 3)
	trades(t, turnedWishes(8, 3), 3, 4, 5, 6, 7, 0, 1, 2)
}

// turnedWishes are the wishes of n traders, each of whom likes the lot of the one so many further best, and then those after it.
func turnedWishes(n, by int) [][]int {
	var wishes [][]int
	for i := range n {
		var l []int
		for j := range n {
			l = append(l, (i+by+j)%n)
		}
		wishes = append(wishes, l)
	}
	return wishes
}

func isBetter(t *testing.T, wishes [][]int, trade []int, group uint8, want bool) {
	t.Helper()
	is, e := box.Better(wishes, trade, group)
	wantErr(t, list[any](wishes, trade, group), e, api.OK)
	if is != want {
		t.Errorf("%v, %v, %b: got %v", wishes, trade, group, is)
	}
}

func TestP8_6Better(t *testing.T) {
	wishes := list(list(1, 0, 2), list(0, 1, 2), list(0, 1, 2))
	for group := uint8(1); group < 8; group++ {
		isBetter(t, wishes, list(1, 0, 2), group, false)
		isBetter(t, wishes, list(0, 1, 2), group, group&3 == 3)
		// The first one is better off alone; the third one would give it its lot; but the second one keeps its best lot.
		isBetter(t, wishes, list(2, 0, 1), group, group == 1 || group == 3 || group == 5)
	}
	// One of the group gains, and the other one has the same: the lot that it likes best is given away by another one.
	isBetter(t, list(list(1, 0, 2), list(2, 0, 1), list(0, 1, 2)), list(2, 0, 1), 3, true)
	isBetter(t, list(list(1, 0, 2), list(0, 2, 1), list(0, 1, 2)), list(2, 0, 1), 3, true)
	isBetter(t, list(list(1, 0, 2), list(2, 0, 1), list(0, 1, 2)), list(0, 2, 1), 3, false)
	isBetter(t, list(list(1, 0, 2), list(2, 1, 0), list(0, 1, 2)), list(2, 1, 0), 3, true)
	isBetter(t, list(list(1, 2, 0), list(2, 1, 0), list(0, 1, 2)), list(2, 1, 0), 3, false)
	// Nobody gains.
	isBetter(t, list(list(0, 1), list(1, 0)), list(0, 1), 3, false)
	isBetter(t, list(list(0, 1), list(1, 0)), list(1, 0), 3, true)
	isBetter(t, list(list(0)), list(0), 1, false)
	// Eight traders, all of whom, or all but one of whom, would have to give.
	next := turnedWishes(8, 1)
	for i, l := range next {
		next[i] = append(list(l[0], i), l[1:7]...)
	}
	isBetter(t, next, upTo(8), 255, true)
	isBetter(t, next, upTo(8), 127, false)
	isBetter(t, turnedWishes(8, 1), upTo(8), 127, true)
	isBetter(t, turnedWishes(8, 1), upTo(8), 64, false)
	isBetter(t, turnedWishes(8, 1), list(1, 2, 3, 4, 5, 6, 7, 0), 255, false)
	isBetter(t, turnedWishes(8, 1), list(7, 0, 1, 2, 3, 4, 5, 6), 1, false)
	isBetter(t, turnedWishes(8, 1), list(0, 2, 3, 4, 5, 6, 7, 1), 255, true)
}

func TestP8_6BetterErrors(t *testing.T) {
	wishes := turnedWishes(3, 1)
	bad := [][]int{nil, {0, 1}, {0, 1, 2, 3}, {0, 0, 1}, {0, 1, 1}, {0, 1, 3}, {-1, 1, 2}, {1, 2, 256}, {2, 1, 2}}
	for _, n := range extremes {
		bad = append(bad, list(n, 0, 1), list(0, 1, n))
	}
	for _, trade := range bad {
		for _, group := range []uint8{0, 1, 7, 8, 255} {
			allFail(t, trade, map[string]result{"Better": of(box.Better(wishes, trade, group))}, api.ErrBad)
		}
	}
	for n := 1; n <= 8; n++ {
		for group := range 256 {
			_, e := box.Better(turnedWishes(n, 1), upTo(n), uint8(group))
			want := api.OK
			if group == 0 || group >= 1<<n {
				want = api.ErrArg
			}
			wantErr(t, list(n, group), e, want)
		}
	}
}

func TestP8_6AnyGroup(t *testing.T) {
	r := rand.New(rand.NewSource(41))
	yes := 0
	for range 4000 {
		n := 1 + r.Intn(6)
		wishes, trade, group := randomWishes(r, n), r.Perm(n), uint8(1+r.Intn(1<<n-1))
		if r.Intn(2) == 0 {
			// A trade in which most groups have at least what is their own.
			trade, _ = box.Trade(wishes)
			i, j := r.Intn(n), r.Intn(n)
			trade[i], trade[j] = trade[j], trade[i]
		}
		want := wantBetter(wishes, trade, group)
		isBetter(t, wishes, trade, group, want)
		if want {
			yes++
		}
	}
	if yes < 500 || yes > 3500 {
		t.Error(yes)
	}
}

// stable tells whether no group does better than a trade.
func stable(wishes [][]int, trade []int) bool {
	for group := 1; group < 1<<len(wishes); group++ {
		if wantBetter(wishes, trade, uint8(group)) {
			return false
		}
	}
	return true
}

// All trades of few traders are tried: the one in circles is the only one than which no group does better.
func TestP8_11Only(t *testing.T) {
	r := rand.New(rand.NewSource(42))
	check := func(wishes [][]int) {
		t.Helper()
		var found [][]int
		for _, trade := range orders(upTo(len(wishes))) {
			if stable(wishes, trade) {
				found = append(found, trade)
			}
		}
		if len(found) != 1 {
			t.Fatal(wishes, found)
		}
		trades(t, wishes, found[0]...)
	}
	three := orders(upTo(3))
	for _, a := range three {
		for _, b := range three {
			for _, c := range three {
				check(list(a, b, c))
			}
		}
	}
	for range 300 {
		check(randomWishes(r, 4))
	}
}

func TestP8_11Better(t *testing.T) {
	r := rand.New(rand.NewSource(43))
	moved := 0
	for range 300 {
		n := 5 + r.Intn(4)
		wishes := randomWishes(r, n)
		if r.Intn(2) == 0 {
			// Nearly all like the same.
			for i := range wishes {
				wishes[i] = slices.Clone(wishes[0])
				a, b := r.Intn(n), r.Intn(n)
				wishes[i][a], wishes[i][b] = wishes[i][b], wishes[i][a]
			}
		}
		trade, e := box.Trade(wishes)
		wantErr(t, wishes, e, api.OK)
		for i, l := range wishes {
			if slices.Index(l, trade[i]) > slices.Index(l, i) {
				t.Error(wishes, trade)
			}
			if trade[i] != i {
				moved++
			}
		}
		for group := 1; group < 1<<n; group++ {
			isBetter(t, wishes, trade, uint8(group), false)
		}
	}
	if moved < 500 {
		t.Error(moved)
	}
}
