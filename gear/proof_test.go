package gear_test

import (
	"math"
	"math/rand"
	"testing"

	"studwork/api"
	"studwork/gear"
)

func proof(factors, motion, slip []int) api.GearProof {
	return api.GearProof{Factors: factors, Motion: motion, Slip: slip}
}

func TestP4_3CheckRatio(t *testing.T) {
	motion := []int{3, -1, 1}
	right := []int{-1, 2} // -8 of the shaft 0, and 24 of 2
	for i, x := range []struct {
		in, out, num, den int
		p                 api.GearProof
		want              api.Errno
	}{
		{0, 2, 1, 3, proof(right, motion, nil), api.OK},
		{0, 2, 1, 3, proof(right, motion, []int{}), api.OK},
		{0, 2, 1, 3, proof([]int{-5, 10}, []int{21, -7, 7}, nil), api.OK},
		{2, 0, 3, 1, proof([]int{1, -2}, motion, nil), api.OK},
		{0, 1, -1, 3, proof([]int{1, 0}, motion, nil), api.OK},
		{0, 0, 1, 1, proof([]int{0, 0}, motion, nil), api.OK},
		{0, 2, 2, 6, proof(right, motion, nil), api.ErrProof},
		{0, 2, -1, -3, proof(right, motion, nil), api.ErrProof},
		{0, 2, -1, -3, proof([]int{1, -2}, motion, nil), api.ErrProof},
		{0, 2, 1, 0, proof(right, motion, nil), api.ErrProof},
		{0, 2, 0, 0, proof([]int{0, 0}, motion, nil), api.ErrProof},
		{0, 2, 1, 2, proof(right, motion, nil), api.ErrProof},
		{0, 2, -1, 3, proof(right, motion, nil), api.ErrProof},
		{2, 0, 3, 1, proof(right, motion, nil), api.ErrProof},
		{0, 2, 1, 3, proof([]int{1, -2}, motion, nil), api.ErrProof},
		{0, 2, 1, 3, proof([]int{0, 0}, motion, nil), api.ErrProof},
		{0, 2, 1, 3, proof([]int{-1, 1}, motion, nil), api.ErrProof},
		{0, 2, 1, 3, proof([]int{-1}, motion, nil), api.ErrProof},
		{0, 2, 1, 3, proof([]int{-1, 2, 0}, motion, nil), api.ErrProof},
		{0, 2, 1, 3, proof(nil, motion, nil), api.ErrProof},
		{0, 2, 1, 3, proof(right, nil, nil), api.ErrProof},
		{0, 2, 1, 3, proof(right, []int{3, -1}, nil), api.ErrProof},
		{0, 2, 1, 3, proof(right, []int{3, -1, 1, 0}, nil), api.ErrProof},
		{0, 2, 1, 3, proof(right, []int{-3, 1, -1}, nil), api.ErrProof},
		{0, 2, 1, 3, proof(right, []int{0, 0, 0}, nil), api.ErrProof},
		{0, 2, 1, 3, proof(right, []int{3, -1, 2}, nil), api.ErrProof},
		{0, 2, 1, 3, proof(right, []int{3, 1, -1}, nil), api.ErrProof},
		{0, 2, 1, 3, proof(right, motion, motion), api.ErrProof},
		{0, 2, 1, 3, proof(right, motion, []int{0}), api.ErrProof},
		{0, 0, 1, 1, proof(right, motion, nil), api.ErrProof},
		{0, 0, 2, 2, proof([]int{0, 0}, motion, nil), api.ErrProof},
		{0, 0, 0, 1, proof([]int{0, 0}, motion, nil), api.ErrProof},
		{0, 0, 1, 2, proof([]int{0, 0}, motion, nil), api.ErrProof},
		{0, 0, -1, 1, proof([]int{0, 0}, motion, nil), api.ErrProof},
	} {
		wantErr(t, i, gear.CheckRatio(first(), x.in, x.out, x.num, x.den, x.p), x.want)
		if wantProvesRatio(first(), x.in, x.out, x.num, x.den, x.p) != (x.want == api.OK) {
			t.Error(i, "the helper has another opinion")
		}
	}
}

// A ratio of 0, and the factors that jam the shaft.
func TestP4_3CheckRatioOfZero(t *testing.T) {
	x := train(3, planet(0, 1, 2, 8, 24), fixed(1))
	motion := []int{4, 0, 1}
	wantErr(t, "jammed", gear.CheckRatio(x, 0, 1, 0, 1, proof([]int{0, 3}, motion, nil)), api.OK)
	wantErr(t, "below 0", gear.CheckRatio(x, 0, 1, 0, 1, proof([]int{0, -3}, motion, nil)), api.ErrProof)
	wantErr(t, "not in lowest terms", gear.CheckRatio(x, 0, 1, 0, 2, proof([]int{0, 4}, motion, nil)), api.ErrProof)
	wantErr(t, "nothing", gear.CheckRatio(x, 0, 1, 0, 1, proof([]int{0, 0}, motion, nil)), api.ErrProof)
	wantErr(t, "in its place", gear.CheckRatio(x, 0, 2, 0, 1, proof([]int{0, 3}, motion, nil)), api.ErrProof)
}

// The sum has to be a multiple of the denominator, and the same one of the numerator.
func TestP4_3Multiples(t *testing.T) {
	x := train(2, chain(1, 0, 2, 3), chain(1, 0, 1, 1)) // 2 b = 3 a, and b = a: jammed
	for f := -9; f <= 9; f++ {
		for g := -9; g <= 9; g++ {
			for num := -4; num <= 4; num++ {
				for den := -2; den <= 4; den++ {
					p := proof([]int{f, g}, []int{1, 1}, nil)
					if got := gear.CheckRatio(x, 0, 1, num, den, p); got != api.ErrProof {
						t.Fatal(f, g, num, den)
					}
					// Without the equation that the motion does not fulfil, all is decided by the sum.
					y := train(2, x.Meshes[1], x.Meshes[1])
					want := wantProvesRatio(y, 0, 1, num, den, p)
					if got := gear.CheckRatio(y, 0, 1, num, den, p) == api.OK; got != want {
						t.Fatal(f, g, num, den, got)
					}
				}
			}
		}
	}
	motion := []int{2, 3}
	single := train(2, chain(1, 0, 4, 6)) // 4 b = 6 a
	wantErr(t, "twice", gear.CheckRatio(single, 0, 1, 3, 2, proof([]int{1}, motion, nil)), api.OK)
	wantErr(t, "other numerator", gear.CheckRatio(single, 0, 1, 5, 2, proof([]int{1}, motion, nil)), api.ErrProof)
	wantErr(t, "other denominator", gear.CheckRatio(single, 0, 1, 3, 1, proof([]int{1}, motion, nil)), api.ErrProof)
	wantErr(t, "no multiple of 3", gear.CheckRatio(single, 0, 1, 4, 3, proof([]int{1}, motion, nil)), api.ErrProof)
	wantErr(t, "above the sum", gear.CheckRatio(single, 0, 1, 6, 5, proof([]int{1}, motion, nil)), api.ErrProof)
	wantErr(t, "the sum itself", gear.CheckRatio(single, 0, 1, 6, 4, proof([]int{1}, motion, nil)), api.ErrProof)
}

func TestP4_3CheckJam(t *testing.T) {
	x := three()
	for i, c := range []struct {
		in   int
		p    api.GearProof
		want api.Errno
	}{
		{0, proof([]int{1, -1, 1}, nil, nil), api.OK},
		{0, proof([]int{3, -3, 3}, []int{}, []int{}), api.OK},
		{1, proof([]int{1, 1, -1}, nil, nil), api.OK},
		{0, proof([]int{-1, 1, -1}, nil, nil), api.ErrProof},
		{0, proof([]int{0, 0, 0}, nil, nil), api.ErrProof},
		{0, proof([]int{1, 1, -1}, nil, nil), api.ErrProof},
		{0, proof([]int{1, -1, 2}, nil, nil), api.ErrProof},
		{0, proof([]int{1, -1}, nil, nil), api.ErrProof},
		{0, proof([]int{1, -1, 1, 0}, nil, nil), api.ErrProof},
		{0, proof(nil, nil, nil), api.ErrProof},
		{0, proof([]int{1, -1, 1}, []int{0, 0, 0}, nil), api.ErrProof},
		{0, proof([]int{1, -1, 1}, nil, []int{0, 0, 0}), api.ErrProof},
		{0, proof([]int{1, -1, 1}, nil, []int{0}), api.ErrProof},
	} {
		wantErr(t, i, gear.CheckJam(x, c.in, c.p), c.want)
	}
	// Without meshes no factors are as many as there are.
	wantErr(t, "no meshes", gear.CheckJam(train(1), 0, api.GearProof{}), api.ErrProof)
	wantErr(t, "no meshes", gear.CheckRatio(train(1), 0, 0, 1, 1, proof(nil, []int{5}, nil)), api.OK)
	wantErr(t, "no meshes", gear.CheckRatio(train(2), 0, 1, 1, 1, proof(nil, []int{5, 5}, nil)), api.ErrProof)
}

func TestP4_3CheckLoose(t *testing.T) {
	motion, slip := []int{1, 1, 1}, []int{1, -1, 0}
	for i, c := range []struct {
		in, out int
		p       api.GearProof
		want    api.Errno
	}{
		{2, 0, proof(nil, motion, slip), api.OK},
		{2, 0, proof([]int{}, []int{3, 1, 2}, []int{8, -8, 0}), api.OK},
		{2, 1, proof(nil, motion, []int{-1, 1, 0}), api.OK},
		{0, 2, proof(nil, motion, []int{0, 2, 1}), api.OK},
		{2, 0, proof([]int{0}, motion, slip), api.ErrProof},
		{2, 0, proof([]int{0, 0}, motion, slip), api.ErrProof},
		{2, 0, proof(nil, nil, slip), api.ErrProof},
		{2, 0, proof(nil, motion, nil), api.ErrProof},
		{2, 0, proof(nil, motion[:2], slip), api.ErrProof},
		{2, 0, proof(nil, motion, slip[:2]), api.ErrProof},
		{2, 0, proof(nil, motion, []int{1, -1, 0, 0}), api.ErrProof},
		{2, 0, proof(nil, []int{0, 0, 0}, slip), api.ErrProof},
		{2, 0, proof(nil, []int{-1, -1, -1}, slip), api.ErrProof},
		{2, 0, proof(nil, []int{1, 1, 2}, slip), api.ErrProof},
		{2, 0, proof(nil, motion, []int{-1, 1, 0}), api.ErrProof},
		{2, 0, proof(nil, motion, []int{0, 0, 0}), api.ErrProof},
		{2, 0, proof(nil, motion, []int{1, 1, 0}), api.ErrProof},
		{2, 0, proof(nil, motion, []int{1, 1, 1}), api.ErrProof},
		{2, 2, proof(nil, motion, slip), api.ErrProof},
		{2, 2, proof(nil, motion, motion), api.ErrProof},
		{0, 2, proof(nil, motion, slip), api.ErrProof},
	} {
		wantErr(t, i, gear.CheckLoose(cage(), c.in, c.out, c.p), c.want)
	}
	wantErr(t, "no meshes", gear.CheckLoose(train(2), 0, 1, proof(nil, []int{1, 0}, []int{0, 1})), api.OK)
	wantErr(t, "not free", gear.CheckLoose(first(), 0, 2, proof(nil, []int{3, -1, 1}, []int{0, 0, 1})), api.ErrProof)
}

// Numbers of proofs are from -2^53 to 2^53.
func TestP4_3LargestNumbers(t *testing.T) {
	apart := train(2)
	for _, n := range []int{1, most, most + 1, math.MaxInt, -1, -most, -most - 1, math.MinInt} {
		in := api.ErrProof
		if n > 0 && n <= most {
			in = api.OK
		}
		wantErr(t, n, gear.CheckLoose(apart, 0, 1, proof(nil, []int{n, 0}, []int{0, 1})), in)
		wantErr(t, n, gear.CheckLoose(apart, 0, 1, proof(nil, []int{1, 0}, []int{0, n})), in)
		wantErr(t, n, gear.CheckJam(train(1, fixed(0)), 0, proof([]int{n}, nil, nil)), in)
		wantErr(t, n, gear.CheckRatio(train(1), 0, 0, 1, 1, proof(nil, []int{n}, nil)), in)
		wantErr(t, n, gear.CheckRatio(train(2, pieces(1, 0)), 0, 1, 1, 1, proof([]int{n}, []int{1, 1}, nil)), in)
		sign := api.ErrProof // of either sign
		if n >= -most && n <= most {
			sign = api.OK
		}
		wantErr(t, n, gear.CheckLoose(apart, 0, 1, proof(nil, []int{1, n}, []int{0, 1})), sign)
		wantErr(t, n, gear.CheckRatio(apart, 0, 0, 1, 1, proof(nil, []int{1, n}, nil)), sign)
		wantErr(t, n, gear.CheckJam(train(2, fixed(0), fixed(0), fixed(0)), 0, proof([]int{n, -n, 1}, nil, nil)), sign)
	}
	wantErr(t, "far", gear.CheckRatio(train(2, chain(1, 0, 1, 24)), 0, 1, 24, 1, proof([]int{most}, []int{1, 24}, nil)), api.OK)
}

// The largest sums that there can be: sixteen planets whose carrier has the factor 48.
func TestP4_3LargestSums(t *testing.T) {
	x := train(3, repeat(16, planet(0, 1, 2, 24, 24))...)
	up := make([]int, 16)
	for i := range up {
		up[i] = most
	}
	wantErr(t, "not 0", gear.CheckRatio(x, 0, 2, 1, 2, proof(up, []int{1, 1, 1}, nil)), api.ErrProof)
	for i := range up {
		up[i] = most * (1 - 2*(i%2))
	}
	wantErr(t, "0", gear.CheckRatio(x, 0, 0, 1, 1, proof(up, []int{most, most, most}, nil)), api.OK)
	wantErr(t, "other sign", gear.CheckRatio(x, 0, 0, 1, 1, proof(up, []int{most, -most, 0}, nil)), api.OK)
	wantErr(t, "by one", gear.CheckRatio(x, 0, 0, 1, 1, proof(up, []int{most, -most, 1}, nil)), api.ErrProof)
}

// Fractions of any size are told from the ones that are proved.
func TestP4_3AnyFractions(t *testing.T) {
	rnd := rand.New(rand.NewSource(6))
	some := append([]int{0, 1, 2, 3, 6, -3, 1 << 62, -1 << 62, 1<<62 - 1}, extremes...)
	x := train(2, chain(1, 0, 2, 6), chain(1, 0, 3, 9))
	for _, num := range some {
		for _, den := range some {
			for range 20 {
				p := proof([]int{some[rnd.Intn(len(some))], some[rnd.Intn(len(some))]}, []int{1, 3}, nil)
				want := wantProvesRatio(x, 0, 1, num, den, p)
				if got := gear.CheckRatio(x, 0, 1, num, den, p) == api.OK; got != want {
					t.Fatal(num, den, p, got)
				}
			}
		}
	}
}

// Random numbers in proofs are told right, near to proofs that are right.
func TestP4_3AnyProofs(t *testing.T) {
	rnd := rand.New(rand.NewSource(7))
	counts := map[bool]int{}
	for range 20000 {
		x := randomTrain(rnd, 4, 5)
		in, out := rnd.Intn(x.Shafts), rnd.Intn(x.Shafts)
		num, den, p, e := gear.Ratio(x, in, out)
		for _, l := range [][]int{p.Factors, p.Motion, p.Slip} {
			if len(l) > 0 && rnd.Intn(3) == 0 {
				l[rnd.Intn(len(l))] += rnd.Intn(5) - 2
			}
		}
		var got, want bool
		switch e {
		case api.OK:
			got, want = gear.CheckRatio(x, in, out, num, den, p) == api.OK, wantProvesRatio(x, in, out, num, den, p)
		case api.ErrJam:
			got, want = gear.CheckJam(x, in, p) == api.OK, wantProvesJam(x, in, p)
		default:
			got, want = gear.CheckLoose(x, in, out, p) == api.OK, wantProvesLoose(x, in, out, p)
		}
		if got != want {
			t.Fatal(x, in, out, num, den, p, got)
		}
		counts[got]++
	}
	if counts[true] < 3000 || counts[false] < 3000 {
		t.Error("too few of one sort", counts)
	}
}
