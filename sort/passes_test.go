package sort_test

import (
	"math/rand"
	"slices"
	"testing"

	"studwork/api"
	"studwork/sort"
)

func costs(t *testing.T, counts, passes []int, bins, want int, wanted api.Errno) {
	t.Helper()
	cost, e := sort.Cost(counts, passes, bins)
	wantErr(t, list(counts, passes), e, wanted)
	if cost != want {
		t.Errorf("%v %v in %d bins: got %d, want %d", counts, passes, bins, cost, want)
	}
}

// plans checks that there is a plan with this cost, which can be done.
func plans(t *testing.T, counts []int, bins, want int) {
	t.Helper()
	passes, cost, e := sort.Plan(counts, bins)
	wantErr(t, counts, e, api.OK)
	if len(passes) != len(counts) || !allBetween(passes, 0, 11) || !wantCan(passes, bins) || wantCost(counts, passes) != cost || cost != want {
		t.Errorf("%v in %d bins: got %v for %d, want %d", counts, bins, passes, cost, want)
	}
	costs(t, counts, passes, bins, want, api.OK)
}

func TestP9_4Cost(t *testing.T) {
	costs(t, list(5, 4, 3), list(1, 1, 1), 3, 12, api.OK)
	costs(t, list(5, 4, 3), list(1, 1, 1), 2, 0, api.ErrNone)
	costs(t, list(5, 4, 3), list(1, 2, 2), 2, 19, api.OK)
	costs(t, list(5, 4, 3), list(2, 1, 2), 2, 20, api.OK)
	costs(t, list(7), list(0), 2, 0, api.OK)
	costs(t, list(7), list(11), 8, 77, api.OK)
	costs(t, list(7, 0), list(0, 11), 8, 0, api.ErrNone) // just too much
	costs(t, list(0, 0), list(0, 11), 2, 0, api.ErrNone)
	costs(t, list(0, 0), list(1, 11), 2, 0, api.OK)
	costs(t, list(0, 0), list(0, 0), 8, 0, api.ErrNone)
	costs(t, slices.Repeat(list(1000), 12), slices.Repeat(list(11), 12), 2, 132000, api.OK)
	costs(t, slices.Repeat(list(1), 12), slices.Repeat(list(0), 12), 8, 0, api.ErrNone)
	costs(t, slices.Repeat(list(1), 8), slices.Repeat(list(1), 8), 8, 8, api.OK)
	costs(t, slices.Repeat(list(1), 9), slices.Repeat(list(1), 9), 8, 0, api.ErrNone)
	// The last two make it full, or more than that.
	costs(t, slices.Repeat(list(1), 12), list(1, 2, 3, 4, 5, 6, 7, 8, 9, 10, 11, 11), 2, 77, api.OK)
	costs(t, slices.Repeat(list(1), 12), list(1, 2, 3, 4, 5, 6, 7, 8, 9, 10, 10, 11), 2, 0, api.ErrNone)
}

// All arguments that lead to ErrArg, also beside what can not be done.
func TestP9_4Errors(t *testing.T) {
	good := call{counts: list(5, 4, 3), passes: list(1, 1, 1), width: 3}
	for _, n := range append([]int{0, 1, -1, 9}, extremes...) {
		for _, passes := range [][]int{good.passes, list(0, 0, 0)} {
			c := good
			c.width, c.passes = n, passes
			allFail(t, n, c.ofPlans(), api.ErrArg)
		}
	}
	lists := [][]int{nil, {}, make([]int, 13), {0, -1, 0}, {1001, 0, 0}, {0, 0, 1001}}
	for _, n := range extremes {
		lists = append(lists, list(n), list(5, 4, n), list(n, n, n))
	}
	for _, l := range lists {
		for _, passes := range [][]int{make([]int, len(l)), slices.Repeat(list(11), len(l))} {
			c := good
			c.counts, c.passes = l, passes
			allFail(t, l, c.ofPlans(), api.ErrArg)
		}
	}
	lists = [][]int{nil, {}, {1, 1}, {1, 1, 1, 1}, {1, 1, 12}, {1, -1, 1}, {0, 0, 12}, {0, 0, -1}}
	for _, n := range extremes {
		lists = append(lists, list(1, 1, n), list(n, 0, 0))
	}
	for _, passes := range lists {
		_, e := sort.Cost(good.counts, passes, 3)
		wantErr(t, passes, e, api.ErrArg)
	}
}

func TestP9_4Plan(t *testing.T) {
	plans(t, list(5, 4, 3), 2, 19)
	plans(t, list(5, 4, 3), 3, 12)
	plans(t, list(5, 4, 3), 8, 12)
	plans(t, list(1000), 2, 0)
	plans(t, list(0), 8, 0)
	plans(t, list(0, 0), 2, 0)
	plans(t, list(3, 1000), 2, 1003)
	plans(t, list(3, 1000), 8, 1003)
	plans(t, list(9, 1, 1, 1), 3, 14) // the last two of the ones, put together: 1 + 1 and 9 + 1 + 2
	plans(t, slices.Repeat(list(1), 9), 8, 11)
	plans(t, slices.Repeat(list(1), 8), 8, 8)
	plans(t, slices.Repeat(list(1), 8), 2, 24)
	plans(t, slices.Repeat(list(0), 12), 2, 0)
	plans(t, slices.Repeat(list(1000), 12), 2, 44000)
	// Each one is about as great as the sum of all before it, so that the first two need 11 passes: 2 + 4 + ... + 1024 and 2024, and 0 + 1 + 3 + ... + 1023.
	plans(t, list(1, 1, 2, 4, 8, 16, 32, 64, 128, 256, 512, 1000), 2, 2046+2024)
	plans(t, list(0, 0, 1, 2, 4, 8, 16, 32, 64, 128, 256, 512), 2, 2047-11)
}

// Cost of random passes, against sums of fractions.
func TestP9_4AnyCost(t *testing.T) {
	r := rand.New(rand.NewSource(31))
	done := 0
	for range 20000 {
		n, bins := 1+r.Intn(12), 2+r.Intn(7)
		counts, passes := randomNumbers(r, n, 0, 1000), randomNumbers(r, n, 0, r.Intn(12))
		if r.Intn(2) == 0 {
			for i := range passes {
				passes[i] = min(11, i/(bins-1)+1)
			}
			passes[r.Intn(n)] = r.Intn(12)
		}
		if !wantCan(passes, bins) {
			costs(t, counts, passes, bins, 0, api.ErrNone)
			continue
		}
		costs(t, counts, passes, bins, wantCost(counts, passes), api.OK)
		done++
	}
	if !between(done, 4000, 16000) {
		t.Error(done)
	}
}

// P9.9: all plans are tried for a few kinds.
func TestP9_9NoneCostsLess(t *testing.T) {
	r := rand.New(rand.NewSource(32))
	for range 150 {
		bins := 2 + r.Intn(7)
		counts := randomNumbers(r, 1+r.Intn(5), 0, r.Intn(40))
		plans(t, counts, bins, wantLeast(counts, bins))
	}
}

// leastWith is the least cost of some counts, for all that the kinds before a kind can leave of all the finest parts of the bins.
func leastWith(counts []int, bins int) int {
	whole := 1
	for range 11 {
		whole *= bins
	}
	type place struct{ kind, left int }
	known := map[place]int{}
	var least func(kind, left int) int
	least = func(kind, left int) int {
		if kind == len(counts) {
			return 0
		}
		at := place{kind, left}
		if n, ok := known[at]; ok {
			return n
		}
		best := 1 << 40
		for n, part := 0, whole; n <= 11; n, part = n+1, part/bins {
			if part <= left {
				best = min(best, n*counts[kind]+least(kind+1, left-part))
			}
		}
		known[at] = best
		return best
	}
	return least(0, whole)
}

// P9.9: up to 12 kinds, also with counts that grow so fast that many passes are needed.
func TestP9_9AnyCounts(t *testing.T) {
	r := rand.New(rand.NewSource(33))
	for i := range 30 {
		bins := 2 + r.Intn(7)
		counts := randomNumbers(r, 1+r.Intn(12), 0, r.Intn(1001))
		for j := range counts {
			if i%2 == 0 {
				counts[j] = counts[j] >> r.Intn(11)
			}
		}
		plans(t, counts, bins, leastWith(counts, bins))
	}
}

// P9.9: with more bins the cost is not greater, and other plans do not cost less.
func TestP9_9MoreBins(t *testing.T) {
	r := rand.New(rand.NewSource(34))
	for range 3000 {
		counts := randomNumbers(r, 1+r.Intn(12), 0, r.Intn(1001))
		before := 1 << 40
		for bins := 2; bins <= 8; bins++ {
			passes, cost, e := sort.Plan(counts, bins)
			wantErr(t, counts, e, api.OK)
			costs(t, counts, passes, bins, cost, api.OK)
			if cost > before {
				t.Fatal(counts, bins, cost, before)
			}
			before = cost
			for range 5 {
				other := slices.Clone(passes)
				other[r.Intn(len(other))] = r.Intn(12)
				other[r.Intn(len(other))] = r.Intn(12)
				if n, e := sort.Cost(counts, other, bins); e == api.OK && n < cost {
					t.Fatal(counts, bins, passes, other)
				}
			}
		}
	}
}
