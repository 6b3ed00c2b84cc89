package sort_test

import (
	"math"
	"math/rand"
	"slices"
	"testing"

	"studwork/api"
	"studwork/sort"
)

// sorts checks the fates of parts, and that the belt runs with its own swings and gives each part this fate.
func sorts(t *testing.T, b api.Belt, l []api.Fed, want ...api.Fate) {
	t.Helper()
	fates, e := sort.Sort(b, l)
	wantErr(t, l, e, api.OK)
	same(t, l, fates, want)
	swings, e := sort.Swings(b, l)
	wantErr(t, l, e, api.OK)
	runs(t, b, l, swings, api.OK, want...)
}

func swingsAre(t *testing.T, b api.Belt, l []api.Fed, want ...api.Swing) {
	t.Helper()
	swings, e := sort.Swings(b, l)
	wantErr(t, l, e, api.OK)
	same(t, l, swings, want)
}

func runs(t *testing.T, b api.Belt, l []api.Fed, swings []api.Swing, wanted api.Errno, want ...api.Fate) {
	t.Helper()
	fates, e := sort.Run(b, l, swings)
	wantErr(t, swings, e, wanted)
	same(t, swings, fates, want)
}

func TestP9_2Examples(t *testing.T) {
	b, three := first(), parts(0, 0, 6, 1, 12, 2)
	sorts(t, b, three, fate(0, 0, 10), fate(1, 1, 21), fate(2, -1, 32))
	swingsAre(t, b, three, goesOut(8, 0), goesBack(11, 0), goesOut(19, 1), goesBack(22, 1))
	sorts(t, b, parts(0, 0, 4, 1), fate(0, -1, 20), fate(1, -1, 24))
	swingsAre(t, b, parts(0, 0, 4, 1))
	sorts(t, b, ticks(0, 1), fate(0, 0, 10), fate(0, 0, 11))
	swingsAre(t, b, ticks(0, 1), goesOut(8, 0), goesBack(12, 0))
	sorts(t, b, ticks(0, 4), fate(0, -1, 20), fate(0, -1, 24))
	runs(t, b, ticks(0), nil, api.OK, fate(0, -1, 20))
	sorts(t, b, nil)
	swingsAre(t, b, nil)
}

// A part is in the cluster of the one before it up to 2 * Slow + 1 ticks after it.
func TestP9_2Clusters(t *testing.T) {
	b := first()
	sorts(t, b, parts(0, 0, 5, 2), fate(0, -1, 20), fate(2, -1, 25))
	sorts(t, b, parts(0, 0, 6, 2), fate(0, 0, 10), fate(2, -1, 26))
	sorts(t, b, parts(0, 2, 5, 0), fate(2, -1, 20), fate(0, -1, 25))
	sorts(t, b, parts(0, 2, 6, 0), fate(2, -1, 20), fate(0, 0, 16))
	sorts(t, b, parts(0, 0, 6, 0, 12, 0), fate(0, 0, 10), fate(0, 0, 16), fate(0, 0, 22))
	swingsAre(t, b, parts(0, 0, 6, 0), goesOut(8, 0), goesBack(11, 0), goesOut(14, 0), goesBack(17, 0))
	// One part after the other joins a cluster, until one of another kind spoils it.
	sorts(t, b, parts(0, 1, 3, 1, 6, 1), fate(1, 1, 15), fate(1, 1, 18), fate(1, 1, 21))
	sorts(t, b, parts(0, 1, 3, 1, 6, 0), fate(1, -1, 20), fate(1, -1, 23), fate(0, -1, 26))
	sorts(t, b, parts(0, 1, 3, 0, 6, 1), fate(1, -1, 20), fate(0, -1, 23), fate(1, -1, 26))
	sorts(t, b, parts(0, 1, 3, 1, 6, 1, 11, 2), fate(1, -1, 20), fate(1, -1, 23), fate(1, -1, 26), fate(2, -1, 31))
	sorts(t, b, parts(0, 1, 3, 1, 6, 1, 12, 2), fate(1, 1, 15), fate(1, 1, 18), fate(1, 1, 21), fate(2, -1, 32))

	b.Slow = 0
	sorts(t, b, parts(0, 0, 1, 1), fate(0, -1, 20), fate(1, -1, 21))
	sorts(t, b, parts(0, 0, 2, 1), fate(0, 0, 10), fate(1, 1, 17))
	swingsAre(t, b, parts(0, 0, 2, 1), goesOut(10, 0), goesBack(11, 0), goesOut(17, 1), goesBack(18, 1))
	swingsAre(t, b, parts(0, 0, 2, 0), goesOut(10, 0), goesBack(11, 0), goesOut(12, 0), goesBack(13, 0))
	swingsAre(t, b, parts(0, 0, 1, 0), goesOut(10, 0), goesBack(12, 0))
}

// Two kinds may have one and the same gate; a kind may have none, though it has a bin; and the readings count, not the kind.
func TestP9_2GatesOfKinds(t *testing.T) {
	b := first()
	b.Bins = binsOf(0, 1, 0, 5)
	sorts(t, b, parts(0, 0, 1, 2), fate(0, 0, 10), fate(2, 0, 11))
	sorts(t, b, parts(0, 3), fate(3, -1, 20))
	sorts(t, b, parts(0, 0, 1, 3), fate(0, -1, 20), fate(3, -1, 21))
	sorts(t, b, parts(0, 3, 1, 3), fate(3, -1, 20), fate(3, -1, 21))
	sorts(t, b, list(part(0, 0, 1), part(6, 9, 0, 0, 1)), fate(1, 1, 15), fate(0, 0, 16))
	sorts(t, b, list(part(0, 0, 0, 1), part(6, 0, -1)), fate(-1, -1, 20), fate(-1, -1, 26))
	sorts(t, b, list(part(0, 0), part(1, 0, 0, 1)), fate(0, -1, 20), fate(-1, -1, 21))
	sorts(t, b, list(part(0, 0, -1), part(1, 0)), fate(-1, -1, 20), fate(0, -1, 21))
	b.Gates = nil
	sorts(t, b, parts(0, 0, 6, 1), fate(0, -1, 20), fate(1, -1, 26))
	b.Gates = gates(10, 1, 15, 0) // the gates in another order than the bins
	sorts(t, b, parts(0, 0, 6, 1), fate(0, 0, 15), fate(1, 1, 16))
	swingsAre(t, b, parts(0, 0, 6, 1), goesOut(13, 1), goesOut(14, 0), goesBack(16, 1), goesBack(17, 0))
}

// The time from the first part to the last one and 3 * Slow + 1 may be as much as the way from the camera to the gate.
func TestP9_2FarEnough(t *testing.T) {
	for slow := range 11 {
		b := api.Belt{Length: 90, Camera: 7, Slow: slow, Gates: gates(50, 3), Bins: binsOf(3)}
		b.Gates[0].At = 7 + 3*slow + 1
		sorts(t, b, ticks(0), fate(0, 3, b.Gates[0].At))
		sorts(t, b, ticks(0, 1), fate(0, -1, 90), fate(0, -1, 91))
		b.Gates[0].At++
		sorts(t, b, ticks(0, 1), fate(0, 3, b.Gates[0].At), fate(0, 3, b.Gates[0].At+1))
		swingsAre(t, b, ticks(0, 1), goesOut(b.Gates[0].At-slow, 0), goesBack(b.Gates[0].At+2, 0))
		b.Gates[0].At -= 2
		if slow > 0 {
			sorts(t, b, ticks(0), fate(0, -1, 90))
		}
	}
}

// Swings of different gates are in order of their ticks, and of gates for the same tick.
func TestP9_2OrderOfSwings(t *testing.T) {
	b := first()
	swingsAre(t, b, parts(0, 1, 6, 0), goesOut(13, 1), goesOut(14, 0), goesBack(16, 1), goesBack(17, 0))
	b.Gates[1].At = 16
	swingsAre(t, b, parts(0, 1, 6, 0), goesOut(14, 0), goesOut(14, 1), goesBack(17, 0), goesBack(17, 1))
	b.Gates[1].At = 19
	swingsAre(t, b, parts(0, 1, 6, 0, 12, 0), goesOut(14, 0), goesBack(17, 0), goesOut(17, 1), goesOut(20, 0), goesBack(20, 1), goesBack(23, 0))
}

func TestP9_2BadSwings(t *testing.T) {
	b := first()
	for _, l := range [][]api.Swing{
		list(goesOut(5, -1)),
		list(goesOut(5, 2)),
		list(goesBack(5, 0)),
		list(goesOut(5, 0), goesOut(9, 0)),
		list(goesOut(5, 0), goesBack(9, 1)),
		list(goesOut(5, 0), goesBack(9, 0), goesBack(13, 0)),
		list(goesOut(5, 0), goesBack(6, 0)),
		list(goesOut(5, 0), goesBack(5, 0)),
		list(goesOut(5, 0), goesBack(4, 0)),
		list(goesOut(9, 0), goesBack(5, 0)),
		list(goesOut(5, 0), goesBack(9, 0), goesOut(10, 0)),
		list(goesOut(5, 1), goesOut(5, 0)),
		list(goesOut(6, 0), goesOut(5, 1)),
		list(goesOut(5, 0), goesOut(7, 1), goesBack(9, 1), goesBack(8, 0)),
		list(goesOut(math.MaxInt, 0), goesBack(math.MinInt, 0)),
		list(goesOut(math.MinInt, 0), goesBack(math.MinInt+1, 0)),
		list(goesOut(math.MaxInt-1, 0), goesBack(math.MaxInt, 0)),
	} {
		runs(t, b, ticks(100), l, api.ErrBad)
		runs(t, b, nil, l, api.ErrBad)
	}
	for _, n := range extremes {
		runs(t, b, ticks(100), list(goesOut(5, n)), api.ErrBad)
	}
	b.Slow = 0
	runs(t, b, ticks(100), list(goesOut(5, 0), goesBack(5, 0)), api.ErrBad)
	runs(t, b, ticks(100), list(goesOut(5, 0), goesBack(6, 0), goesOut(6, 0)), api.ErrBad)
	b.Gates = nil
	runs(t, b, ticks(100), list(goesOut(5, 0)), api.ErrBad)
	runs(t, b, ticks(100), nil, api.OK, fate(0, -1, 120))
}

func TestP9_2GoodSwings(t *testing.T) {
	b := first()
	off := fate(0, -1, 120)
	for _, l := range [][]api.Swing{
		list(goesOut(5, 0), goesBack(7, 0)),
		list(goesOut(-7, 0), goesBack(-5, 0)),
		list(goesOut(5, 0), goesBack(7, 0), goesOut(9, 0), goesBack(11, 0)),
		list(goesOut(5, 0), goesOut(5, 1), goesBack(7, 0), goesBack(7, 1)),
		list(goesOut(5, 1), goesOut(6, 0), goesBack(7, 1), goesBack(8, 0)),
		list(goesOut(math.MinInt, 0), goesBack(math.MinInt+2, 0)),
		list(goesOut(math.MaxInt-2, 0), goesBack(math.MaxInt, 0)),
		list(goesOut(math.MaxInt, 0)),
		list(goesOut(math.MinInt, 0), goesBack(0, 0), goesOut(math.MaxInt, 0)),
	} {
		runs(t, b, ticks(100), l, api.OK, off)
	}
	runs(t, b, ticks(100), list(goesOut(math.MinInt, 0), goesBack(math.MaxInt, 0)), api.OK, fate(0, 0, 110))
	runs(t, b, ticks(100), list(goesOut(math.MinInt, 1)), api.OK, fate(0, 1, 115))
	b.Slow = 0
	runs(t, b, ticks(100), list(goesOut(5, 0), goesBack(6, 0)), api.OK, off)
}

// A gate is moving from the tick at which it begins to the Slow-th one, and is in its new state then.
func TestP9_2Moving(t *testing.T) {
	for slow := range 11 {
		b := first()
		b.Slow = slow
		for from := range 30 {
			swings := list(goesOut(from, 0), goesBack(from+slow+1, 0))
			want, e := []api.Fate{fate(0, -1, 20)}, api.OK
			switch {
			case between(10, from, from+slow-1) || between(10, from+slow+1, from+2*slow):
				want, e = nil, api.ErrMoving
			case from+slow == 10:
				want = list(fate(0, 0, 10))
			}
			runs(t, b, ticks(0), swings, e, want...)
		}
	}
	// A part that has left the belt before does not come to the gate that is moving, nor one on its way before or after that.
	b := first()
	runs(t, b, ticks(0), list(goesOut(0, 0), goesOut(15, 1)), api.OK, fate(0, 0, 10))
	runs(t, b, ticks(0), list(goesOut(14, 1)), api.ErrMoving)
	runs(t, b, ticks(0), list(goesOut(12, 0), goesOut(16, 1)), api.OK, fate(0, -1, 20))
	runs(t, b, ticks(0, 6), list(goesOut(16, 0)), api.ErrMoving) // nothing is said of the first part, which went off
	runs(t, b, ticks(0), list(goesOut(0, 0), goesOut(0, 1), goesBack(5, 0)), api.OK, fate(0, 1, 15))
	runs(t, b, ticks(1000), list(goesOut(1008, 0)), api.OK, fate(0, 0, 1010))
	runs(t, b, list(part(0, 4, 1, 5), part(1, 4, 7)), list(goesOut(0, 0)), api.OK, fate(-1, 0, 10), fate(7, 0, 11))
}

// Random belts and parts, against what the definitions say.
func TestP9_2AnySort(t *testing.T) {
	r := rand.New(rand.NewSource(11))
	sorted, off := 0, 0
	for range 1500 {
		b := randomBelt(r)
		l := randomFed(r, b.Slow)
		want := wantFates(b, l)
		sorts(t, b, l, want...)
		swingsAre(t, b, l, wantSwings(b, l)...)
		for _, f := range want {
			if f.Bin >= 0 {
				sorted++
			} else {
				off++
			}
		}
	}
	if sorted < 3000 || off < 3000 {
		t.Error(sorted, off)
	}
}

// Random swings, against a belt on which each part is moved from place to place.
func TestP9_2AnyRun(t *testing.T) {
	r := rand.New(rand.NewSource(12))
	counts := map[api.Errno]int{}
	for range 6000 {
		b := randomBelt(r)
		l := randomFed(r, b.Slow)
		l = l[:min(len(l), r.Intn(10))]
		swings := randomSwings(r, b)
		if r.Intn(3) == 0 && len(swings) > 1 {
			i, j := r.Intn(len(swings)), r.Intn(len(swings))
			swings[i], swings[j] = swings[j], swings[i]
			swings[i].Tick += r.Intn(3) - 1
		}
		want, e := wantRun(b, l, swings)
		runs(t, b, l, swings, e, want...)
		counts[e]++
	}
	if counts[api.OK] < 800 || counts[api.ErrBad] < 800 || counts[api.ErrMoving] < 800 {
		t.Error(counts)
	}
}

// P9.5: a belt always runs with its own swings, which are valid, as Sort says; nothing comes into a bin of other kinds.
func TestP9_5OwnSwings(t *testing.T) {
	r := rand.New(rand.NewSource(13))
	sorted := 0
	for range 3000 {
		b := fitBelt(r)
		l := randomFed(r, b.Slow)
		swings, e := sort.Swings(b, l)
		wantErr(t, l, e, api.OK)
		if !wantSwingsValid(b, swings) {
			t.Fatal(b, l, swings)
		}
		fates, e := sort.Sort(b, l)
		wantErr(t, l, e, api.OK)
		runs(t, b, l, swings, api.OK, fates...)
		for i, f := range fates {
			read, e := sort.Read(l[i].Readings)
			if f.Read != read || e != api.OK || f.Bin >= 0 && (read < 0 || b.Bins[read] != f.Bin) {
				t.Fatal(b, l, fates)
			}
			if f.Bin >= 0 {
				sorted++
			}
		}
	}
	if sorted < 5000 {
		t.Error(sorted)
	}
}

// misread returns readings of which fewer than half are wrong.
func misread(r *rand.Rand, kind int) []int {
	l := slices.Repeat(list(kind), 1+r.Intn(9))
	for i := range (len(l) - 1) / 2 {
		l[i] = r.Intn(17) - 1
	}
	r.Shuffle(len(l), func(i, j int) { l[i], l[j] = l[j], l[i] })
	return l
}

func TestP9_6ReadRight(t *testing.T) {
	r := rand.New(rand.NewSource(14))
	sorted := 0
	for range 3000 {
		b := fitBelt(r)
		l := randomFed(r, b.Slow)
		for i := range l {
			l[i].Readings = misread(r, l[i].Kind)
			if kind, e := sort.Read(l[i].Readings); kind != l[i].Kind || e != api.OK {
				t.Fatal(l[i], kind, e)
			}
		}
		fates, e := sort.Sort(b, l)
		wantErr(t, l, e, api.OK)
		for i, f := range fates {
			if f.Read != l[i].Kind || f.Bin >= 0 && b.Bins[l[i].Kind] != f.Bin {
				t.Fatal(b, l, fates)
			}
			if f.Bin >= 0 {
				sorted++
			}
		}
	}
	if sorted < 3000 {
		t.Error(sorted)
	}
}

// upToTick returns the swings up to a tick.
func upToTick(t *testing.T, b api.Belt, l []api.Fed, tick int) []api.Swing {
	t.Helper()
	swings, e := sort.Swings(b, l)
	wantErr(t, l, e, api.OK)
	return slices.DeleteFunc(swings, func(s api.Swing) bool { return s.Tick > tick })
}

// P9.7: with other parts that come to the camera after a tick, the swings up to this tick are the same.
func TestP9_7LaterParts(t *testing.T) {
	r := rand.New(rand.NewSource(15))
	compared := 0
	for range 1500 {
		b := fitBelt(r)
		l := randomFed(r, b.Slow)
		for range 20 {
			tick := r.Intn(300)
			var other []api.Fed
			for _, x := range l {
				if x.Tick+b.Camera <= tick {
					other = append(other, x)
				}
			}
			seen := len(other)
			for at := max(0, tick-b.Camera) + 1 + r.Intn(3); len(other) < min(40, seen+5); at += 1 + r.Intn(2*b.Slow+5) {
				other = append(other, part(at, r.Intn(4)))
			}
			want := upToTick(t, b, l, tick)
			same(t, l, upToTick(t, b, other, tick), want)
			same(t, l, upToTick(t, b, other[:seen], tick), want)
			compared += len(want)
		}
	}
	if compared < 10000 {
		t.Error(compared)
	}
}

// P9.7: parts more than 2 * Slow + 1 ticks apart are sorted if their gates are at least 3 * Slow + 1 places behind the camera.
func TestP9_7FarApart(t *testing.T) {
	r := rand.New(rand.NewSource(16))
	sorted := 0
	for range 3000 {
		b := fitBelt(r)
		var l []api.Fed
		for tick := r.Intn(9); tick <= 1000 && len(l) < 40; tick += 2*b.Slow + 2 + r.Intn(3) {
			l = append(l, part(tick, r.Intn(16)))
		}
		fates, e := sort.Sort(b, l)
		wantErr(t, l, e, api.OK)
		for i, f := range fates {
			gate := wantGate(b, l[i].Kind)
			if gate < 0 || b.Gates[gate].At < b.Camera+3*b.Slow+1 {
				continue
			}
			if f != fate(l[i].Kind, b.Gates[gate].Bin, l[i].Tick+b.Gates[gate].At) {
				t.Fatal(b, l[i], f)
			}
			sorted++
		}
	}
	if sorted < 3000 {
		t.Error(sorted)
	}
}
