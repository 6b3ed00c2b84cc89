package gear_test

import (
	"math/rand"
	"slices"
	"testing"

	"studwork/api"
	"studwork/gear"
)

func TestP4_4SlipsExamples(t *testing.T) {
	got, e := gear.Slips(plus(first(), clutch(0, 1)), 0)
	wantErr(t, "one", e, api.OK)
	same(t, "one", got, []int{2})
	got, e = gear.Slips(three(), 0)
	if e != api.ErrNone || len(got) > 0 {
		t.Error(got, e)
	}
}

func TestP4_4Slips(t *testing.T) {
	for i, x := range []struct {
		t    api.Train
		in   int
		want []int
		e    api.Errno
	}{
		{first(), 0, nil, api.OK},
		{train(1), 0, nil, api.OK},
		{train(1, fixed(0)), 0, nil, api.ErrNone},
		{train(2, clutch(0, 1)), 0, nil, api.OK},
		{train(2, clutch(0, 1), fixed(0)), 0, nil, api.ErrNone},
		{train(2, clutch(0, 1), fixed(0)), 1, []int{0}, api.OK},
		// Either of two clutches in a row: the first one.
		{train(3, fixed(0), clutch(1, 2), clutch(0, 1)), 2, []int{1}, api.OK},
		{train(3, fixed(0), clutch(1, 2), clutch(0, 1)), 1, []int{2}, api.OK},
		// One clutch rather than two, though these come first.
		{train(3, clutch(0, 1), clutch(1, 0), fixed(0), clutch(1, 2)), 2, []int{3}, api.OK},
		{train(3, clutch(0, 1), clutch(1, 0), fixed(0), clutch(1, 2)), 1, []int{0, 1}, api.OK},
		// Two of two pairs: the pair whose first one comes first.
		{train(3, clutch(1, 2), clutch(0, 1), clutch(1, 2), clutch(0, 1), fixed(0)), 2, []int{0, 2}, api.OK},
		{train(3, clutch(0, 1), clutch(1, 2), clutch(1, 2), clutch(0, 1), fixed(0)), 2, []int{0, 3}, api.OK},
		// A clutch that closes a differential makes it turn as one.
		{train(4, diff(0, 1, 2), clutch(0, 2), gears(0, 3, 8, 8), clutch(2, 3)), 0, []int{1}, api.OK},
		{train(4, diff(0, 1, 2), clutch(0, 2), gears(0, 3, 8, 8), clutch(2, 3)), 1, []int{1}, api.OK},
		// All of fifteen clutches.
		{train(2, append(repeat(15, clutch(0, 1)), fixed(1))...), 0, []int{0, 1, 2, 3, 4, 5, 6, 7, 8, 9, 10, 11, 12, 13, 14}, api.OK},
		{train(2, repeat(16, clutch(0, 1))...), 0, nil, api.OK},
	} {
		got, e := gear.Slips(x.t, x.in)
		wantErr(t, i, e, x.e)
		same(t, i, got, x.want)
	}
}

// randomClutches returns a train of which about half of the meshes are clutches.
func randomClutches(rnd *rand.Rand, shafts, most int) api.Train {
	x := train(2 + rnd.Intn(shafts-1))
	for range 2 + rnd.Intn(most-1) {
		if rnd.Intn(5) < 3 {
			x.Meshes = append(x.Meshes, randomMesh(rnd, x.Shafts, 2, []uint8{7}))
		} else {
			x.Meshes = append(x.Meshes, randomMesh(rnd, x.Shafts, 2, anyKinds))
		}
	}
	return x
}

func TestP4_4SlipsOfAnyTrains(t *testing.T) {
	rnd := rand.New(rand.NewSource(8))
	counts := map[int]int{}
	none := 0
	for range 1200 {
		x := randomClutches(rnd, 5, 9)
		in := rnd.Intn(x.Shafts)
		got, e := gear.Slips(x, in)
		want, wantE := wantSlips(x, in)
		if e != wantE || !slices.Equal(got, want) {
			t.Fatal(x, in, got, e, want, wantE)
		}
		if e == api.OK {
			counts[len(got)]++
		} else {
			none++
		}
	}
	if counts[0] < 50 || counts[1] < 50 || counts[2] < 50 || counts[3] < 20 || none < 50 {
		t.Error("too few of one sort", counts, none)
	}
}

func TestP4_8Slips(t *testing.T) {
	rnd := rand.New(rand.NewSource(9))
	several := 0
	for range 800 {
		x := randomClutches(rnd, 8, 16)
		in := rnd.Intn(x.Shafts)
		open, e := gear.Slips(x, in)
		if e == api.ErrNone {
			if !wantJammed(wantOpen(x, open), in) {
				t.Fatal(x, in)
			}
			continue
		}
		y, e := gear.Open(x, open)
		wantErr(t, x, e, api.OK)
		if _, _, _, e := gear.Ratio(y, in, in); e != api.OK {
			t.Fatal(x, in, open, e)
		}
		for i := range open {
			fewer, e := gear.Open(x, slices.Delete(slices.Clone(open), i, i+1))
			wantErr(t, x, e, api.OK)
			if _, _, _, e := gear.Ratio(fewer, in, in); e != api.ErrJam {
				t.Fatal(x, in, open, i, e)
			}
		}
		if len(open) > 1 {
			several++
		}
	}
	if several < 100 {
		t.Error("too few", several)
	}
}

// Clutches between all shafts of six, and clutches that have no part in the jam: many sets are gone through.
func TestP4_8ManyClutches(t *testing.T) {
	all := train(8, fixed(0))
	for a := range 6 {
		for b := range a {
			all.Meshes = append(all.Meshes, clutch(a, b))
		}
	}
	got, e := gear.Slips(all, 5)
	wantErr(t, "all", e, api.OK)
	same(t, "all", got, []int{1, 2, 4, 7, 11})
	idle := train(8, fixed(0))
	for a := range 5 {
		for b := range a {
			idle.Meshes = append(idle.Meshes, clutch(a+3, b+3))
		}
	}
	idle.Meshes = append(idle.Meshes, repeat(5, clutch(0, 1))...)
	got, e = gear.Slips(idle, 1)
	wantErr(t, "idle", e, api.OK)
	same(t, "idle", got, []int{11, 12, 13, 14, 15})
}
