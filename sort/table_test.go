package sort_test

import (
	"math/big"
	"math/rand"
	"slices"
	"testing"

	"studwork/api"
	"studwork/sort"
)

// badTables are tables that are none.
func badTables() [][][]int {
	l := [][][]int{
		nil,
		{},
		{nil},
		{{}},
		{{1000}},
		{{1000, 0, 0}},
		{{999, 0}},
		{{1000, 1}},
		{{0, 0}},
		{{1001, -1}},
		{{-1, 1001}},
		{{500, 500}, {500, 500}},
		{{900, 50, 50}, {100, 800, 101}},
		{{900, 50, 50}, {100, 800, 99}},
		{{900, 50, 49}, {100, 800, 101}},
		{{900, 50, 50}, {100, 1001, -101}},
		{{900, 50, 50}, {100, 900}},
		{{900, 50, 50}, {100, 800, 50, 50}},
		{{900, 50, 50}, nil},
		{nil, {900, 50, 50}},
		{{900, 50, 50}},
		{{900, 50, 50}, {100, 800, 100}, {100, 800, 100}},
		right(9),
		make([][]int, 8),
		make([][]int, 9),
	}
	for _, n := range extremes {
		l = append(l, list(list(n, 0)), list(list(n, 1000-n)), list(list(1000, 0, 0), list(n, 1000, -n)))
	}
	return l
}

func TestP9_3CheckTable(t *testing.T) {
	tables := [][][]int{chart(), {{0, 1000}}, {{500, 500}}, {{0, 1000, 0}, {0, 0, 1000}}}
	r := rand.New(rand.NewSource(21))
	for n := range 8 {
		tables = append(tables, right(n+1), randomTable(r, n+1))
	}
	for _, table := range tables {
		wantErr(t, table, sort.CheckTable(table), api.OK)
	}
	for _, table := range badTables() {
		wantErr(t, table, sort.CheckTable(table), api.ErrBad)
	}
}

func TestP9_3AnyTable(t *testing.T) {
	r := rand.New(rand.NewSource(22))
	counts := map[api.Errno]int{}
	for range 20000 {
		table := randomTable(r, 1+r.Intn(8))
		wantErr(t, table, sort.CheckTable(table), api.OK)
		row := table[r.Intn(len(table))]
		by := r.Intn(3) - 1
		row[r.Intn(len(row))] += by
		row[r.Intn(len(row))] -= by
		if r.Intn(20) == 0 {
			table[0] = append(row, 0)
		}
		want := api.ErrBad
		if wantTable(table) {
			want = api.OK
		}
		wantErr(t, table, sort.CheckTable(table), want)
		counts[want]++
	}
	if counts[api.OK] < 2000 || counts[api.ErrBad] < 2000 {
		t.Error(counts)
	}
}

// All errors of the functions with tables, in their order.
func TestP9_3Errors(t *testing.T) {
	good := call{table: chart(), n: 1, counts: list(10, 10), bins: list(0, 1)}
	for _, table := range badTables() {
		c := good
		c.table = table
		allFail(t, table, c.ofTable(), api.ErrBad)
		c.kind, c.n, c.counts, c.bins = -1, 0, list(-1), nil
		allFail(t, table, c.ofTable(), api.ErrBad)
	}
	for _, n := range append([]int{0, -1, 6}, extremes...) {
		c := good
		c.n = n
		allFail(t, n, c.ofTable(), api.ErrArg)
	}
	chances := func(c call) map[string]result { return map[string]result{"Chances": c.ofTable()["Chances"]} }
	wrong := func(c call) map[string]result { return map[string]result{"Wrong": c.ofTable()["Wrong"]} }
	for _, kind := range append([]int{-1, 2, 3}, extremes...) {
		c := good
		c.kind = kind
		allFail(t, kind, chances(c), api.ErrArg)
	}
	lists := [][]int{nil, {}, {0}, {0, 0, 0}, make([]int, 8)}
	for _, n := range extremes {
		lists = append(lists, list(n, 0), list(0, n))
	}
	for _, l := range lists {
		c := good
		c.counts = l
		allFail(t, l, wrong(c), api.ErrArg)
		c = good
		c.bins = l
		allFail(t, l, wrong(c), api.ErrArg)
	}
	for _, x := range []call{{counts: list(0, -1), bins: list(0, 0)}, {counts: list(1001, 0), bins: list(0, 0)}, {counts: list(0, 0), bins: list(-2, 0)}, {counts: list(0, 0), bins: list(0, 8)}} {
		c := good
		c.counts, c.bins = x.counts, x.bins
		allFail(t, x, wrong(c), api.ErrArg)
	}
}

func TestP9_3Chances(t *testing.T) {
	for _, x := range []struct {
		table   [][]int
		kind, n int
		want    []int
	}{
		{chart(), 0, 1, list(900, 50, 50)},
		{chart(), 0, 2, list(900000, 7500, 92500)},
		{chart(), 1, 1, list(100, 800, 100)},
		{chart(), 1, 2, list(30000, 800000, 170000)},
		{list(list(1000, 0)), 0, 5, list(1000000000000000, 0)},
		{list(list(0, 1000)), 0, 5, list(0, 1000000000000000)},
		{list(list(500, 500)), 0, 3, list(875000000, 125000000)},
		{list(list(0, 1000, 0), list(500, 500, 0)), 0, 4, list(0, 1000000000000, 0)},
		{list(list(0, 1000, 0), list(500, 500, 0)), 1, 2, list(250000, 250000, 500000)},
		{list(list(0, 1000, 0), list(500, 500, 0)), 1, 3, list(500000000, 500000000, 0)},
	} {
		counts, e := sort.Chances(x.table, x.kind, x.n)
		wantErr(t, x, e, api.OK)
		same(t, x, counts, x.want)
	}
}

// All kinds of random tables of each size, against all that one reading after the other can say.
func TestP9_3AnyChances(t *testing.T) {
	r := rand.New(rand.NewSource(23))
	for kinds := 1; kinds <= 8; kinds++ {
		for n := 1; n <= 5; n++ {
			if kinds > 5 && n == 5 {
				continue
			}
			table := randomTable(r, kinds)
			for k := range table {
				counts, e := sort.Chances(table, k, n)
				wantErr(t, table, e, api.OK)
				same(t, list(kinds, k, n), counts, wantChances(table, k, n))
			}
		}
	}
	table := slices.Repeat(list(list(111, 111, 111, 111, 111, 111, 111, 111, 112)), 8)
	counts, e := sort.Chances(table, 7, 5)
	wantErr(t, table, e, api.OK)
	same(t, table, counts, wantChances(table, 7, 5))
}

func mix(num, den int) api.Mix { return api.Mix{Num: num, Den: den} }

func TestP9_3Wrong(t *testing.T) {
	for _, x := range []struct {
		n            int
		counts, bins []int
		want         map[int]api.Mix
	}{
		{1, list(10, 10), list(0, 1), map[int]api.Mix{0: mix(1000, 10000), 1: mix(500, 8500)}},
		{1, list(10, 10), list(1, 0), map[int]api.Mix{1: mix(1000, 10000), 0: mix(500, 8500)}},
		{1, list(10, 10), list(7, 7), map[int]api.Mix{7: mix(0, 18500)}},
		{1, list(10, 10), list(-1, 3), map[int]api.Mix{3: mix(500, 8500)}},
		{1, list(10, 10), list(4, -1), map[int]api.Mix{4: mix(1000, 10000)}},
		{1, list(10, 10), list(-1, -1), nil},
		{1, list(0, 0), list(0, 1), nil},
		{1, list(0, 1000), list(0, 1), map[int]api.Mix{0: mix(100000, 100000), 1: mix(0, 800000)}},
		{2, list(1, 2), list(0, 1), map[int]api.Mix{0: mix(60000, 960000), 1: mix(7500, 1607500)}},
	} {
		want := make([]api.Mix, 8)
		for bin, m := range x.want {
			want[bin] = m
		}
		mixes, e := sort.Wrong(chart(), x.n, x.counts, x.bins)
		wantErr(t, x, e, api.OK)
		same(t, x, mixes, want)
	}
}

// The greatest sums that there are still are numbers.
func TestP9_3GreatestWrong(t *testing.T) {
	all, whole := slices.Repeat(list(1000), 8), slices.Repeat(list(5), 8)
	mixes, e := sort.Wrong(right(8), 5, all, whole)
	wantErr(t, "right", e, api.OK)
	same(t, "right", mixes, given(make([]api.Mix, 8), 5, mix(0, 8000000000000000000)))
	row := list(1000, 0, 0, 0, 0, 0, 0, 0, 0)
	mixes, e = sort.Wrong(slices.Repeat(list(row), 8), 5, all, list(0, 1, 1, 1, 1, 1, 1, 1))
	wantErr(t, "wrong", e, api.OK)
	same(t, "wrong", mixes, given(make([]api.Mix, 8), 0, mix(7000000000000000000, 8000000000000000000)))
}

func TestP9_3AnyWrong(t *testing.T) {
	r := rand.New(rand.NewSource(24))
	for i := range 60 {
		kinds, n := 1+r.Intn(8), 1+i%3
		if kinds <= 3 {
			n += r.Intn(3)
		}
		table, counts, bins := randomTable(r, kinds), randomNumbers(r, kinds, 0, 1000), randomNumbers(r, kinds, -1, r.Intn(8))
		mixes, e := sort.Wrong(table, n, counts, bins)
		wantErr(t, table, e, api.OK)
		same(t, table, mixes, wantWrong(table, n, counts, bins))
	}
}

func TestP9_8AllWays(t *testing.T) {
	r := rand.New(rand.NewSource(25))
	for range 300 {
		table := randomTable(r, 1+r.Intn(8))
		for k, row := range table {
			ways := 1
			for n := 1; n <= 5; n++ {
				ways *= 1000
				counts, e := sort.Chances(table, k, n)
				wantErr(t, table, e, api.OK)
				total := new(big.Int)
				for _, m := range counts {
					if m < 0 {
						t.Fatal(table, k, n, counts)
					}
					total.Add(total, big.NewInt(int64(m)))
				}
				if len(counts) != len(row) || total.Cmp(big.NewInt(int64(ways))) != 0 {
					t.Fatal(table, k, n, counts)
				}
				if n == 1 {
					same(t, table, counts, row)
				}
			}
		}
	}
}

func TestP9_8NothingWrong(t *testing.T) {
	r := rand.New(rand.NewSource(26))
	for range 300 {
		kinds := 1 + r.Intn(8)
		counts, bins, n := randomNumbers(r, kinds, 0, 1000), randomNumbers(r, kinds, -1, 7), 1+r.Intn(5)
		mixes, e := sort.Wrong(right(kinds), n, counts, bins)
		wantErr(t, bins, e, api.OK)
		ways := 1
		for range n {
			ways *= 1000
		}
		want := make([]api.Mix, 8)
		for k, bin := range bins {
			if bin >= 0 {
				want[bin].Den += counts[k] * ways
			}
		}
		same(t, bins, mixes, want)
	}
}
