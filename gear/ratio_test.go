package gear_test

import (
	"math/big"
	"math/rand"
	"slices"
	"testing"

	"studwork/api"
	"studwork/gear"
)

// checkRatio holds a result of Ratio and its proof against the definitions and the functions that check proofs, and returns its error.
func checkRatio(t *testing.T, x api.Train, in, out int) api.Errno {
	t.Helper()
	num, den, p, e := gear.Ratio(x, in, out)
	want, wantE := wantRatio(x, in, out)
	proved := false
	switch e {
	case api.OK:
		proved = wantProvesRatio(x, in, out, num, den, p) && gear.CheckRatio(x, in, out, num, den, p) == api.OK
	case api.ErrJam:
		proved = wantProvesJam(x, in, p) && gear.CheckJam(x, in, p) == api.OK && num == 0 && den == 0
	case api.ErrLoose:
		proved = wantProvesLoose(x, in, out, p) && gear.CheckLoose(x, in, out, p) == api.OK && num == 0 && den == 0
	}
	if e != wantE || !proved {
		t.Fatal(x, in, out, num, den, p, e, wantE)
	}
	if e == api.OK && want.Cmp(big.NewRat(int64(num), int64(den))) != 0 {
		t.Fatal(x, in, out, num, den, want)
	}
	return e
}

func TestP4_2Examples(t *testing.T) {
	held := plus(cage(), fixed(1))
	for i, x := range []struct {
		t            api.Train
		in, out      int
		num, den     int
		e            api.Errno
		motion, slip []int
	}{
		{first(), 0, 2, 1, 3, api.OK, []int{3, -1, 1}, nil},
		{first(), 0, 1, -1, 3, api.OK, []int{3, -1, 1}, nil},
		{first(), 2, 0, 3, 1, api.OK, []int{3, -1, 1}, nil},
		{three(), 0, 0, 0, 0, api.ErrJam, nil, nil},
		{cage(), 2, 0, 0, 0, api.ErrLoose, nil, nil},
		{held, 2, 0, 2, 1, api.OK, []int{2, 0, 1}, nil},
		{held, 2, 1, 0, 1, api.OK, []int{2, 0, 1}, nil},
		{held, 1, 2, 0, 0, api.ErrJam, nil, nil},
		{train(3, planet(0, 1, 2, 8, 24), fixed(1)), 0, 2, 1, 4, api.OK, []int{4, 0, 1}, nil},
		{train(2), 0, 1, 0, 0, api.ErrLoose, []int{1, 0}, []int{0, 1}},
		{train(1), 0, 0, 1, 1, api.OK, []int{1}, nil},
		{train(2, pieces(1, 0)), 0, 1, 1, 1, api.OK, []int{1, 1}, nil},
		{train(2, chain(0, 1, 9, 6)), 0, 1, 3, 2, api.OK, []int{2, 3}, nil},
	} {
		num, den, p, e := gear.Ratio(x.t, x.in, x.out)
		if num != x.num || den != x.den || e != x.e {
			t.Error(i, num, den, p, e)
		}
		// Any proof will do; where there are just these motions, only multiples of them.
		if x.motion != nil && !isMultiple(p.Motion, x.motion) || x.slip != nil && !isMultiple(p.Slip, x.slip) {
			t.Error(i, p)
		}
		checkRatio(t, x.t, x.in, x.out)
	}
}

func isMultiple(l, of []int) bool {
	by := 0
	for i, n := range of {
		if n != 0 {
			by = l[i] / n
		}
	}
	for i, n := range of {
		if l[i] != by*n {
			return false
		}
	}
	return by > 0
}

func TestP4_2ErrArg(t *testing.T) {
	for _, n := range append([]int{-1, 3, 8}, extremes...) {
		for _, x := range [][2]int{{n, 0}, {0, n}, {n, n}} {
			for _, y := range []api.Train{first(), three(), cage()} {
				calls := withTrain(y, 0, x[0], x[1], 1, 1, nil, api.GearProof{})
				for _, name := range []string{"Ratio", "CheckRatio", "CheckLoose"} {
					allFail(t, x, map[string]result{name: calls[name]}, api.ErrArg)
				}
			}
		}
		calls := withTrain(first(), 0, n, 0, 1, 1, nil, api.GearProof{})
		allFail(t, n, map[string]result{"CheckJam": calls["CheckJam"], "Slips": calls["Slips"]}, api.ErrArg)
	}
}

func TestP4_6AnyTrains(t *testing.T) {
	rnd := rand.New(rand.NewSource(1))
	counts := map[api.Errno]int{}
	for range 2500 {
		x := randomTrain(rnd, 8, 16)
		in, out := rnd.Intn(x.Shafts), rnd.Intn(x.Shafts)
		counts[checkRatio(t, x, in, out)]++
		checkRatio(t, x, in, in)
		checkOthers(t, x, in, out)
	}
	if counts[api.OK] < 400 || counts[api.ErrJam] < 400 || counts[api.ErrLoose] < 400 {
		t.Error("too few of one sort", counts)
	}
}

// checkOthers checks that nothing else can be proved than what is right, with what Ratio returns for other shafts and other trains.
func checkOthers(t *testing.T, x api.Train, in, out int) {
	t.Helper()
	right, e := wantRatio(x, in, out)
	for _, y := range []api.Train{x, plus(x, fixed(out)), plus(x, fixed(in)), wantOpen(x, []int{0})} {
		for shaft := range x.Shafts {
			num, den, p, _ := gear.Ratio(y, shaft, out)
			if den == 0 {
				num, den = 1, 1
			}
			for _, p := range mixtures(p, x) {
				is := right != nil && right.Cmp(big.NewRat(int64(num), int64(den))) == 0
				if gear.CheckRatio(x, in, out, num, den, p) == api.OK && !is {
					t.Fatal(x, in, out, num, den, p)
				}
				if gear.CheckJam(x, in, p) == api.OK && e != api.ErrJam || gear.CheckLoose(x, in, out, p) == api.OK && e != api.ErrLoose {
					t.Fatal(x, in, out, p, e)
				}
			}
		}
	}
}

// mixtures returns a proof with some of its lists left out, and its factors as many as there are meshes.
func mixtures(p api.GearProof, x api.Train) []api.GearProof {
	factors := append(slices.Clone(p.Factors), make([]int, 20)...)[:len(x.Meshes)]
	return []api.GearProof{p, {Factors: factors}, {Factors: factors, Motion: p.Motion}, {Motion: p.Motion, Slip: p.Slip}, {Motion: p.Motion, Slip: p.Motion}}
}

// Planets with carriers of their own make the numbers of the proofs, and those on the way to them, about as large as they can be: products of two of these need more than 64 bits.
func TestP4_6LargeNumbers(t *testing.T) {
	rnd := rand.New(rand.NewSource(2))
	counts := map[api.Errno]int{}
	largest := 0
	for range 600 {
		x := train(8)
		for c := range 6 + rnd.Intn(3) {
			l := slices.DeleteFunc(rnd.Perm(8), func(n int) bool { return n == c })
			x.Meshes = append(x.Meshes, planet(l[0], l[1], c, 24-rnd.Intn(5), 24-rnd.Intn(5)))
		}
		for range rnd.Intn(3) { // otherwise all shafts may turn alike
			x.Meshes[rnd.Intn(len(x.Meshes))] = randomMesh(rnd, 8, 24, []uint8{1, 2, 5})
		}
		in, out := rnd.Intn(8), rnd.Intn(8)
		counts[checkRatio(t, x, in, out)]++
		_, _, p, _ := gear.Ratio(x, in, out)
		for _, n := range slices.Concat(p.Factors, p.Motion, p.Slip) {
			largest = max(largest, n, -n)
		}
	}
	if counts[api.OK] < 100 || counts[api.ErrJam] < 100 || counts[api.ErrLoose] < 100 || largest < 1<<32 {
		t.Error("too few of one sort", counts, largest)
	}
}

// A row of gears has the ratio with the largest numbers that gears alone can have.
func TestP4_6LongestRow(t *testing.T) {
	x := train(8)
	num, den := 1, 1
	for i := range 7 {
		x.Meshes = append(x.Meshes, gears(i, i+1, 24, 23))
		num, den = -24*num, 23*den
	}
	a, b, _, e := gear.Ratio(x, 0, 7)
	if a != num || b != den || e != api.OK {
		t.Error(a, b, e)
	}
	checkRatio(t, x, 0, 7)
	checkRatio(t, x, 7, 0)
	checkRatio(t, x, 3, 6)
	x.Meshes = append(x.Meshes, chain(0, 7, 24, 24))
	wantErr(t, "closed", checkRatio(t, x, 4, 1), api.ErrJam)
}

// Sixteen meshes are more equations than shafts.
func TestP4_6MostMeshes(t *testing.T) {
	rnd := rand.New(rand.NewSource(3))
	counts := map[api.Errno]int{}
	for range 400 {
		var turns []int
		for range 8 {
			turns = append(turns, 1+rnd.Intn(4))
		}
		x := train(8)
		for len(x.Meshes) < 16 { // gears that all fit one motion
			l := rnd.Perm(8)
			by := 1 + rnd.Intn(3)
			x.Meshes = append(x.Meshes, chain(l[0], l[1], turns[l[1]]*by, turns[l[0]]*by))
		}
		if rnd.Intn(3) == 0 {
			x.Meshes[rnd.Intn(16)] = randomMesh(rnd, 8, 24, anyKinds)
		}
		counts[checkRatio(t, x, rnd.Intn(8), rnd.Intn(8))]++
	}
	if counts[api.OK] < 100 || counts[api.ErrJam] < 50 {
		t.Error("too few of one sort", counts)
	}
}

func TestP4_7RatiosMultiply(t *testing.T) {
	rnd := rand.New(rand.NewSource(4))
	products, inverses := 0, 0
	for range 3000 {
		x := randomTrain(rnd, 6, 8)
		a, b, c := rnd.Intn(x.Shafts), rnd.Intn(x.Shafts), rnd.Intn(x.Shafts)
		ab, e := ratioOf(x, a, b)
		if e != api.OK {
			continue
		}
		if bc, e := ratioOf(x, b, c); e == api.OK {
			ac, e := ratioOf(x, a, c)
			if e != api.OK || ac.Cmp(new(big.Rat).Mul(ab, bc)) != 0 {
				t.Fatal(x, a, b, c, ab, bc, ac, e)
			}
			products++
		}
		if ba, e := ratioOf(x, b, a); e == api.OK && ab.Sign() != 0 {
			if ba.Cmp(new(big.Rat).Inv(ab)) != 0 {
				t.Fatal(x, a, b, ab, ba)
			}
			inverses++
		}
		if aa, e := ratioOf(x, a, a); e != api.OK || aa.Cmp(big.NewRat(1, 1)) != 0 {
			t.Fatal(x, a, aa, e)
		}
	}
	if products < 300 || inverses < 300 {
		t.Error("too few", products, inverses)
	}
}

func ratioOf(x api.Train, in, out int) (*big.Rat, api.Errno) {
	num, den, _, e := gear.Ratio(x, in, out)
	if e != api.OK {
		return nil, e
	}
	return big.NewRat(int64(num), int64(den)), e
}

func TestP4_7OneMoreMesh(t *testing.T) {
	rnd := rand.New(rand.NewSource(5))
	less, equal := 0, 0
	for range 1500 {
		x := randomTrain(rnd, 8, 16)
		y := plus(x, randomMesh(rnd, x.Shafts, 24, anyKinds))
		before, e := gear.Free(x)
		wantErr(t, x, e, api.OK)
		after, e := gear.Free(y)
		wantErr(t, y, e, api.OK)
		switch after {
		case before:
			equal++
		case before - 1:
			less++
		default:
			t.Fatal(x, y, before, after)
		}
		for in := range x.Shafts {
			_, _, _, e := gear.Ratio(x, in, in)
			_, _, _, f := gear.Ratio(y, in, in)
			if e == api.ErrJam && f != api.ErrJam {
				t.Fatal(x, y, in)
			}
		}
	}
	if less < 300 || equal < 300 {
		t.Error("too few", less, equal)
	}
}
