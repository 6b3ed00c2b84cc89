package box_test

import (
	"math/rand"
	"slices"
	"testing"

	"studwork/api"
	"studwork/box"
)

// badSwaps are lists that are no swaps.
func badSwaps() [][]api.Swap {
	l := [][]api.Swap{
		list(swap(1, 1, 1, 1)),
		list(swap(-1, 1, 1, 1)),
		list(swap(16, 1, 1, 1)),
		list(swap(1, 16, 1, 1)),
		list(swap(1, 255, 1, 1)),
		list(swap(1, 1, -1, 1)),
		list(swap(1, 1, 16, 1)),
		list(swap(1, 1, 1, 16)),
		list(swap(1, 1, 1, 255)),
		append(others(), swap(0, 0, 0, 0)),
		slices.Repeat(others(), 31),
	}
	for _, n := range extremes {
		l = append(l, list(swap(n, 1, 1, 1)), list(swap(1, 1, n, 1)))
	}
	return l
}

func TestP8_2CheckSwaps(t *testing.T) {
	for _, l := range [][]api.Swap{
		nil,
		{},
		others(),
		list(swap(1, 1, 1, 2)),
		list(swap(1, 1, 2, 1)),
		list(swap(0, 0, 15, 15), swap(15, 15, 0, 0)),
		list(swap(3, 1, 2, 1), swap(2, 1, 1, 1), swap(3, 1, 2, 1)),
		slices.Repeat(others(), 30),
	} {
		wantErr(t, l, box.CheckSwaps(l), api.OK)
	}
	for _, l := range badSwaps() {
		wantErr(t, l, box.CheckSwaps(l), api.ErrArg)
		// The other functions return this error after that of stocks, and before all others.
		c := call{a: one(1), b: one(2), swaps: l, uses: list(use(9, 9, 0)), counts: list(3)}
		allFail(t, l, c.ofSwaps(), api.ErrArg)
		c.b = one(0)
		allFail(t, l, c.ofSwaps(), api.ErrBad)
	}
}

func fills(t *testing.T, stock, needs []api.Item, swaps []api.Swap, total int, short ...int) {
	t.Helper()
	f, e := box.Fill(stock, needs, swaps)
	wantErr(t, needs, e, api.OK)
	if f.Total != total {
		t.Errorf("%v from %v with %v: got total %d, want %d", needs, stock, swaps, f.Total, total)
	}
	same(t, list(needs, stock), f.Short, short)
}

func TestP8_2Fill(t *testing.T) {
	fills(t, one(4), first(), others(), 4, 0, 1)
	fills(t, list(item(1, 1, 2), item(2, 1, 9)), first(), others(), 4, 0)
	fills(t, one(4), first(), nil, 3, 1)
	fills(t, one(5), first(), others(), 5)
	fills(t, one(3), first(), nil, 3, 1)
	fills(t, one(2), first(), nil, 2, 0, 1)
	fills(t, nil, first(), others(), 0, 0, 1)
	fills(t, one(2), nil, others(), 0)
	fills(t, nil, nil, nil, 0)
	// A swap is for one side only, and is not put together with another one.
	fills(t, list(item(2, 1, 9)), first(), others(), 2, 0)
	fills(t, one(9), list(item(2, 1, 1), item(3, 1, 1)), list(swap(2, 1, 1, 1), swap(3, 1, 2, 1)), 1, 1)
	// Kinds and colours both count.
	fills(t, list(item(1, 2, 9), item(2, 1, 9)), one(3), nil, 0, 0)
	fills(t, list(item(1, 2, 9), item(2, 1, 9)), one(3), list(swap(1, 1, 2, 2)), 0, 0)
	// An item that is not filled, but may be in place of another one, is short as well; one that lacks nothing is not.
	three := list(item(1, 1, 2), item(2, 1, 2), item(3, 1, 2))
	fills(t, list(item(1, 1, 3), item(3, 1, 2)), three, others(), 5, 0, 1)
	fills(t, list(item(1, 1, 3), item(3, 1, 1)), three, others(), 4, 0, 1, 2)
	fills(t, list(item(1, 1, 1), item(3, 1, 3)), three, list(swap(2, 1, 3, 1)), 4, 0, 1, 2)
	fills(t, list(item(1, 1, 1), item(3, 1, 4)), three, list(swap(2, 1, 3, 1)), 5, 0)
	// A set that lacks nothing is left out, though with it there would be as much.
	fills(t, list(item(1, 1, 2), item(3, 1, 1)), three, others(), 3, 0, 1, 2)
	fills(t, list(item(2, 1, 2), item(3, 1, 1)), three, nil, 3, 0, 2)
	// The greatest ones.
	fills(t, kinds(0, 30, 1000), kinds(0, 30, 1000), nil, 30000)
	fills(t, kinds(0, 30, 999), kinds(0, 30, 1000), nil, 29970, upTo(30)...)
	fills(t, kinds(1, 30, 1000), kinds(0, 30, 1000), nil, 29000, 0)
}

// Each part may be filled by the next one in order: for the last one that is needed, all others have to move.
func TestP8_2LongWay(t *testing.T) {
	var swaps []api.Swap
	for i := range 29 {
		swaps = append(swaps, swap((i+1)/16, uint8((i+1)%16), i/16, uint8(i%16)))
	}
	fills(t, kinds(0, 29, 1000), kinds(1, 29, 1000), swaps, 29000)
	fills(t, kinds(0, 29, 1000), kinds(1, 29, 1000), swaps[1:], 28000, upTo(29)...)
	fills(t, kinds(0, 30, 500), kinds(1, 29, 517), swaps, 29*517)
	fills(t, kinds(0, 30, 500), kinds(1, 29, 518), swaps, 15000, upTo(29)...)
	fills(t, kinds(0, 30, 500), kinds(1, 29, 518), swaps[:15], 15*518+14*500, upTo(29)[15:]...)
}

// Random boxes, for which all sets of items are tried: Short proves Total.
func TestP8_8Short(t *testing.T) {
	r := rand.New(rand.NewSource(11))
	shorts, ties, substitutes := 0, 0, 0
	for range 4000 {
		stock, needs, swaps := randomItems(r, 1+r.Intn(1000)), randomItems(r, 1+r.Intn(1000)), randomSwaps(r)
		if r.Intn(2) == 0 {
			stock, needs = randomItems(r, 5), randomItems(r, 3)
		}
		short, lack := wantShort(stock, needs, swaps)
		fills(t, stock, needs, swaps, sum(numbers(needs)...)-lack, short...)
		f, _ := box.Fill(stock, needs, swaps)
		if n := wantLack(stock, needs, swaps, numbers(needs), f.Short); n != sum(numbers(needs)...)-f.Total {
			t.Error(stock, needs, swaps, f, n)
		}
		plain, _ := box.Fill(stock, needs, nil)
		if plain.Total < f.Total {
			substitutes++
		}
		if lack > 0 {
			shorts++
		}
		for _, set := range subsets(len(needs)) {
			if len(set) > len(short) && wantLack(stock, needs, swaps, numbers(needs), set) == lack {
				ties++
				break
			}
		}
	}
	if shorts < 1000 || ties < 500 || substitutes < 500 {
		t.Error(shorts, ties, substitutes)
	}
}

// Small boxes, for which all fillings are tried: none has a greater total.
func TestP8_8Most(t *testing.T) {
	r := rand.New(rand.NewSource(12))
	for range 1000 {
		stock, needs, swaps := randomItems(r, 3), randomItems(r, 2), randomSwaps(r)
		needs = needs[:min(len(needs), 4)]
		f, e := box.Fill(stock, needs, swaps)
		if n := wantMost(stock, needs, swaps); e != api.OK || f.Total != n {
			t.Error(stock, needs, swaps, f, n, e)
		}
	}
}

func TestP8_2CheckUses(t *testing.T) {
	stock := list(item(1, 1, 4), item(2, 1, 2))
	for _, x := range []struct {
		uses  []api.Use
		total int
		e     api.Errno
	}{
		{nil, 0, api.OK},
		{list(use(0, 0, 1)), 1, api.OK},
		{list(use(0, 0, 3)), 3, api.OK},
		{list(use(0, 0, 4)), 0, api.ErrBad},
		{list(use(1, 0, 2)), 2, api.OK},
		{list(use(1, 0, 3)), 0, api.ErrBad},
		{list(use(0, 0, 3), use(1, 0, 1), use(1, 1, 1)), 5, api.OK},
		{list(use(0, 0, 3), use(1, 0, 2)), 0, api.ErrBad},
		{list(use(0, 0, 3), use(1, 0, 1), use(1, 1, 2)), 0, api.ErrBad},
		{list(use(1, 0, 1), use(1, 1, 1)), 2, api.OK},
		{list(use(1, 1, 1), use(1, 0, 1)), 0, api.ErrBad},
		{list(use(1, 1, 1), use(0, 0, 1)), 0, api.ErrBad},
		{list(use(1, 0, 1), use(0, 1, 1)), 0, api.ErrBad},
		{list(use(0, 0, 1), use(0, 0, 1)), 0, api.ErrBad},
		{list(use(0, 0, 1), use(1, 0, 1), use(0, 0, 1)), 0, api.ErrBad},
		{list(use(0, 1, 1)), 0, api.ErrBad},
		{list(use(0, 0, 0)), 0, api.ErrBad},
		{list(use(0, 0, -1)), 0, api.ErrBad},
		{list(use(0, 0, 3), use(1, 0, -1)), 0, api.ErrBad},
		{list(use(2, 0, 1)), 0, api.ErrBad},
		{list(use(-1, 0, 1)), 0, api.ErrBad},
		{list(use(0, 2, 1)), 0, api.ErrBad},
		{list(use(0, -1, 1)), 0, api.ErrBad},
	} {
		n, e := box.CheckUses(stock, first(), others(), x.uses)
		wantErr(t, x.uses, e, x.e)
		if n != x.total {
			t.Error(x.uses, n, x.total)
		}
	}
	_, e := box.CheckUses(stock, first(), nil, list(use(1, 0, 1)))
	wantErr(t, "no swaps", e, api.ErrBad)
	for _, n := range extremes {
		for _, u := range []api.Use{use(n, 0, 1), use(0, n, 1), use(0, 0, n), use(n, n, n)} {
			for _, uses := range [][]api.Use{list(u), list(use(0, 0, 1), u), list(u, use(1, 1, 1))} {
				m, e := box.CheckUses(stock, first(), others(), uses)
				if e != api.ErrBad || m != 0 {
					t.Error(uses, m, e)
				}
			}
		}
	}
}

func TestP8_2AnyUses(t *testing.T) {
	r := rand.New(rand.NewSource(13))
	valid := 0
	for range 20000 {
		stock, needs, swaps := randomItems(r, 4), randomItems(r, 4), randomSwaps(r)
		var uses []api.Use
		for need := range needs {
			for by := range stock {
				if wantMay(swaps, needs[need], stock[by]) && r.Intn(3) > 0 || r.Intn(60) == 0 {
					uses = append(uses, use(need, by, 1+r.Intn(2)-r.Intn(20)/19))
				}
			}
		}
		if len(uses) > 1 && r.Intn(5) == 0 {
			i, j := r.Intn(len(uses)), r.Intn(len(uses))
			uses[i], uses[j] = uses[j], uses[i]
		}
		got, is := wantFilling(stock, needs, swaps, uses)
		n, e := box.CheckUses(stock, needs, swaps, uses)
		if is != (e == api.OK) || n != sum(got...) || !is && e != api.ErrBad {
			t.Error(stock, needs, swaps, uses, n, e)
		}
		if is {
			valid++
		}
	}
	if valid < 5000 || valid > 15000 {
		t.Error(valid)
	}
}

// usesOf checks what Uses returns, of which the error alone is not free.
func usesOf(t *testing.T, stock, needs []api.Item, swaps []api.Swap, counts []int, want api.Errno) {
	t.Helper()
	what := list[any](stock, needs, swaps, counts)
	uses, e := box.Uses(stock, needs, swaps, counts)
	wantErr(t, what, e, want)
	if e != api.OK {
		same(t, what, uses, nil)
		return
	}
	got, ok := wantFilling(stock, needs, swaps, uses)
	if !ok {
		t.Error(what, uses)
	}
	same(t, what, got, counts)
	n, e := box.CheckUses(stock, needs, swaps, uses)
	wantErr(t, what, e, api.OK)
	if n != sum(counts...) {
		t.Error(what, uses, n)
	}
}

func TestP8_3Uses(t *testing.T) {
	stock := list(item(1, 1, 3), item(2, 1, 1))
	usesOf(t, stock, first(), others(), list(3, 1), api.OK)
	usesOf(t, stock, first(), others(), list(2, 2), api.OK)
	usesOf(t, stock, first(), others(), list(3, 2), api.ErrNone)
	usesOf(t, stock, first(), others(), list(0, 0), api.OK)
	usesOf(t, stock, first(), others(), list(0, 2), api.OK)
	usesOf(t, stock, first(), nil, list(2, 2), api.ErrNone)
	usesOf(t, stock, first(), others(), list(4, 0), api.ErrArg)
	usesOf(t, stock, first(), others(), list(0, 3), api.ErrArg)
	usesOf(t, stock, first(), others(), list(-1, 0), api.ErrArg)
	usesOf(t, stock, first(), others(), list(0, -1), api.ErrArg)
	usesOf(t, stock, first(), others(), list(1), api.ErrArg)
	usesOf(t, stock, first(), others(), list(1, 1, 0), api.ErrArg)
	usesOf(t, stock, first(), others(), nil, api.ErrArg)
	usesOf(t, stock, nil, others(), list(0), api.ErrArg)
	usesOf(t, stock, nil, others(), nil, api.OK)
	usesOf(t, nil, first(), others(), list(0, 0), api.OK)
	usesOf(t, nil, first(), others(), list(0, 1), api.ErrNone)
	// Counts are looked at before any filling is.
	usesOf(t, nil, first(), others(), list(1, 3), api.ErrArg)
	for _, n := range extremes {
		usesOf(t, stock, first(), others(), list(n, 0), api.ErrArg)
		usesOf(t, stock, first(), others(), list(0, n), api.ErrArg)
	}
	usesOf(t, kinds(0, 30, 1000), kinds(0, 30, 1000), nil, numbers(kinds(0, 30, 1000)), api.OK)
	usesOf(t, kinds(0, 30, 999), kinds(0, 30, 1000), nil, append(make([]int, 29), 1000), api.ErrNone)
}

func TestP8_3AnyCounts(t *testing.T) {
	r := rand.New(rand.NewSource(14))
	can, cannot := 0, 0
	for range 4000 {
		top := 1 + r.Intn(1+r.Intn(1000))
		stock, needs, swaps := randomItems(r, top), randomItems(r, top), randomSwaps(r)
		var counts []int
		for _, x := range needs {
			counts = append(counts, r.Intn(x.N+1))
		}
		want := api.OK
		if can++; !wantCan(stock, needs, swaps, counts) {
			want = api.ErrNone
			can--
			cannot++
		}
		usesOf(t, stock, needs, swaps, counts, want)
	}
	if can < 500 || cannot < 500 {
		t.Error(can, cannot)
	}
}
