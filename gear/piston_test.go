package gear_test

import (
	"math/rand"
	"slices"
	"testing"

	"studwork/api"
	"studwork/gear"
)

func piston(open, stroke int, lift ...int) api.Piston {
	return api.Piston{Lift: lift, Open: open, Stroke: stroke}
}

// upAndDown is the piston of the chapter's examples.
func upAndDown() api.Piston { return piston(3, 1, 5, 5, 0) }

func TestP4_5ValidPistons(t *testing.T) {
	for i, p := range []api.Piston{
		upAndDown(), piston(0, 1, 0), piston(100, 20, 100), piston(100, 20, make([]int, 24)...), piston(0, 20, slices.Repeat([]int{100}, 24)...),
	} {
		wantErr(t, i, gear.CheckPiston(p), api.OK)
	}
}

func TestP4_5ErrArg(t *testing.T) {
	bad := []api.Piston{
		{}, piston(3, 1), piston(3, 1, make([]int, 25)...), piston(101, 1, 5), piston(-1, 1, 5), piston(3, 0, 5), piston(3, 21, 5), piston(3, -1, 5),
		piston(3, 1, 101), piston(3, 1, -1), piston(3, 1, 5, 5, 101), piston(3, 1, 101, 5, 5), piston(3, 1, -1, 5),
	}
	for _, n := range extremes {
		if n != 25 {
			bad = append(bad, piston(n, 1, 5), piston(3, 1, n), piston(3, 1, 5, n))
		}
		bad = append(bad, piston(3, n, 5))
	}
	for i, p := range bad {
		wantErr(t, i, gear.CheckPiston(p), api.ErrArg)
		allFail(t, i, map[string]result{"Places": of(gear.Places(p, 3)), "Cycle": cycle([]api.Piston{upAndDown(), p})}, api.ErrArg)
		allFail(t, i, map[string]result{"Cycle": cycle([]api.Piston{p, upAndDown()})}, api.ErrArg)
	}
	for _, n := range append([]int{-1, 10001}, extremes...) {
		if n != 25 && n != 101 {
			allFail(t, n, map[string]result{"Places": of(gear.Places(upAndDown(), n))}, api.ErrArg)
		}
	}
}

func TestP4_5Places(t *testing.T) {
	for i, x := range []struct {
		p     api.Piston
		ticks int
		want  []int
	}{
		{upAndDown(), 7, []int{0, 1, 1, 0, 1, 1, 0, 1}},
		{upAndDown(), 0, []int{0}},
		{upAndDown(), 1, []int{0, 1}},
		{piston(5, 1, 5, 5, 4), 4, []int{0, 1, 1, 0, 1}}, // at least as much as Open
		{piston(6, 1, 5, 5, 4), 4, []int{0, 0, 0, 0, 0}},
		{piston(1, 3, 1), 5, []int{0, 1, 2, 3, 3, 3}},
		{piston(1, 20, 0, 1, 1), 9, []int{0, 0, 1, 2, 1, 2, 3, 2, 3, 4}},
		{piston(1, 20, 1, 0, 0), 6, []int{0, 1, 0, 0, 1, 0, 0}},
		{piston(0, 2, 0), 3, []int{0, 1, 2, 2}},
	} {
		got, e := gear.Places(x.p, x.ticks)
		wantErr(t, i, e, api.OK)
		same(t, i, got, x.want)
	}
}

func TestP4_9AnyPlaces(t *testing.T) {
	rnd := rand.New(rand.NewSource(10))
	for i := range 300 {
		p := randomPiston(rnd)
		ticks := rnd.Intn(200)
		if i < 3 {
			ticks = 10000
		}
		got, e := gear.Places(p, ticks)
		wantErr(t, p, e, api.OK)
		same(t, p, got, wantPlaces(p, ticks))
		for t0 := range ticks {
			d := got[t0+1] - got[t0]
			if d < -1 || d > 1 || got[t0+1] < 0 || got[t0+1] > p.Stroke {
				t.Fatal(p, t0)
			}
		}
	}
}

func TestP4_5Cycle(t *testing.T) {
	for i, x := range []struct {
		l             []api.Piston
		start, length int
	}{
		{[]api.Piston{upAndDown()}, 0, 3},
		{[]api.Piston{piston(1, 1, 0)}, 0, 1},
		{[]api.Piston{piston(1, 1, 1)}, 1, 1},
		{[]api.Piston{piston(1, 20, 1)}, 20, 1},
		{[]api.Piston{piston(1, 20, 1, 1, 0)}, 57, 3}, // after 19 periods it is at 19, and goes 20, 20, 19
		{[]api.Piston{piston(1, 20, 0, 1, 1)}, 57, 3}, // after 19 periods it is at 20, and goes 19, 20, 20
		{[]api.Piston{piston(1, 2, 1, 1, 0), piston(1, 1, 0, 0)}, 6, 6},
		{[]api.Piston{piston(1, 5, 1, 1, 0), piston(1, 1, 0, 0)}, 12, 6},
		{[]api.Piston{piston(1, 1, 0, 0), piston(1, 5, 1, 1, 0), piston(1, 9, 0, 1, 1, 1)}, 24, 12},
		{slices.Repeat([]api.Piston{upAndDown()}, 6), 0, 3},
	} {
		start, length, e := gear.Cycle(x.l)
		if start != x.start || length != x.length || e != api.OK {
			t.Error(i, start, length, e)
		}
	}
}

func TestP4_5CycleErrors(t *testing.T) {
	bad := piston(101, 0)
	allFail(t, "none", map[string]result{"nil": cycle(nil), "empty": cycle([]api.Piston{})}, api.ErrMany)
	allFail(t, "seven", map[string]result{"valid": cycle(slices.Repeat([]api.Piston{upAndDown()}, 7)), "not": cycle(slices.Repeat([]api.Piston{bad}, 7))}, api.ErrMany)
	allFail(t, "six", map[string]result{"not": cycle(slices.Repeat([]api.Piston{bad}, 6))}, api.ErrArg)
	for i, x := range []struct {
		entries []int
		e       api.Errno
		length  int
	}{
		{[]int{13, 19, 20}, api.OK, 4940},    // the longest of all up to 5000
		{[]int{5, 7, 11, 13}, api.ErrArg, 0}, // 5005, the shortest of all above
		{[]int{24, 23, 9}, api.OK, 1656},
		{[]int{24, 23, 3, 1, 8, 9}, api.OK, 1656},
		{[]int{16, 9, 5, 7}, api.ErrArg, 0}, // 5040
		{[]int{13, 24, 16}, api.OK, 624},
		{[]int{8, 20, 24}, api.OK, 120},
		{[]int{9, 11, 5, 10}, api.OK, 990},
		{[]int{22, 15, 14}, api.OK, 2310},
		{[]int{23, 19, 11}, api.OK, 4807},
		{[]int{17, 14, 21}, api.OK, 714},
		{[]int{24, 23, 19, 17, 13, 11}, api.ErrArg, 0}, // the most there can be
		{[]int{7, 23, 17, 2}, api.ErrArg, 0},           // 5474
		{[]int{16, 24, 13, 8, 2}, api.OK, 624},
		{[]int{17, 7, 21, 14, 2}, api.OK, 714},
	} {
		var l []api.Piston
		for _, n := range x.entries {
			l = append(l, piston(1, 20, make([]int, n)...))
		}
		start, length, e := gear.Cycle(l)
		if start != 0 || length != x.length || e != x.e {
			t.Error(i, start, length, e)
		}
	}
}

func TestP4_9AnyCycles(t *testing.T) {
	rnd := rand.New(rand.NewSource(11))
	starts := map[int]int{}
	for range 300 {
		var l []api.Piston
		for range 1 + rnd.Intn(6) {
			p := randomPiston(rnd)
			p.Lift = p.Lift[:1+rnd.Intn(min(6, len(p.Lift)))]
			l = append(l, p)
		}
		start, length, e := gear.Cycle(l)
		wantErr(t, l, e, api.OK)
		wantLength := 1
		for slices.ContainsFunc(l, func(p api.Piston) bool { return wantLength%len(p.Lift) != 0 }) {
			wantLength++
		}
		wantStart := 0
		for !slices.ContainsFunc([]int{wantStart}, func(from int) bool { return repeats(l, from, wantLength) }) {
			wantStart += wantLength
		}
		if start != wantStart || length != wantLength {
			t.Fatal(l, start, length, wantStart, wantLength)
		}
		starts[start/length]++
	}
	for _, n := range []int{0, 1, 2, 3, 5, 8} {
		if starts[n] == 0 {
			t.Error("none with the start", n, starts)
		}
	}
}

// repeats tells whether all places of some pistons from a tick on, for thirty periods, are repeated each period.
func repeats(l []api.Piston, from, period int) bool {
	for _, p := range l {
		places := wantPlaces(p, from+31*period)
		if !slices.Equal(places[from:from+30*period], places[from+period:from+31*period]) {
			return false
		}
	}
	return true
}
