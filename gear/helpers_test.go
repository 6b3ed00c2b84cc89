package gear_test

import (
	"math"
	"math/big"
	"math/rand"
	"reflect"
	"slices"
	"testing"

	"studwork/api"
	"studwork/gear"
)

// The helpers here follow the words of the chapter as plainly as they can, and call no function of the program, so that tests can hold its results against theirs.

const most = 1 << 53 // of the numbers of a proof

var extremes = []int{math.MinInt, math.MinInt + 1, math.MinInt32, -most - 1, -most, -1, 25, 101, 10001, most, most + 1, math.MaxInt - 1, math.MaxInt}

func gears(a, b, n, m int) api.Mesh {
	return api.Mesh{Kind: api.MeshGears, A: a, B: b, N: n, M: m}
}

func chain(a, b, n, m int) api.Mesh {
	return api.Mesh{Kind: api.MeshChain, A: a, B: b, N: n, M: m}
}

func pieces(a, b int) api.Mesh { return api.Mesh{Kind: api.MeshSame, A: a, B: b} }

func fixed(a int) api.Mesh { return api.Mesh{Kind: api.MeshFixed, A: a} }

func diff(a, b, c int) api.Mesh { return api.Mesh{Kind: api.MeshDiff, A: a, B: b, C: c} }

func planet(a, b, c, n, m int) api.Mesh {
	return api.Mesh{Kind: api.MeshPlanet, A: a, B: b, C: c, N: n, M: m}
}

func clutch(a, b int) api.Mesh { return api.Mesh{Kind: api.MeshClutch, A: a, B: b} }

func train(shafts int, meshes ...api.Mesh) api.Train {
	return api.Train{Shafts: shafts, Meshes: meshes}
}

// first, three and cage are trains of the chapter's examples.
func first() api.Train { return train(3, gears(0, 1, 8, 24), gears(1, 2, 12, 12)) }

func three() api.Train { return train(3, gears(0, 1, 8, 8), gears(1, 2, 8, 8), gears(0, 2, 8, 8)) }

func cage() api.Train { return train(3, diff(0, 1, 2)) }

func plus(t api.Train, l ...api.Mesh) api.Train {
	return train(t.Shafts, slices.Concat(t.Meshes, l)...)
}

func wantFactors(t api.Train, m api.Mesh) []int {
	l := make([]int, t.Shafts)
	switch m.Kind {
	case 1:
		l[m.A] = m.N
		l[m.B] = m.M
	case 2:
		l[m.A] = m.N
		l[m.B] = -m.M
	case 3, 7:
		l[m.A] = 1
		l[m.B] = -1
	case 4:
		l[m.A] = 1
	case 5:
		l[m.A] = 1
		l[m.B] = 1
		l[m.C] = -2
	case 6:
		l[m.A] = m.N
		l[m.B] = m.M
		l[m.C] = -(m.N + m.M)
	}
	return l
}

// wantMotions returns motions of a train, of which all others are sums: each of them turns one shaft that no equation gives.
func wantMotions(t api.Train) [][]*big.Rat {
	var rows [][]*big.Rat
	for _, m := range t.Meshes {
		var r []*big.Rat
		for _, n := range wantFactors(t, m) {
			r = append(r, big.NewRat(int64(n), 1))
		}
		rows = append(rows, r)
	}
	given := map[int]int{} // a shaft, and the row that gives it
	for shaft := range t.Shafts {
		at := len(given)
		for at < len(rows) && rows[at][shaft].Sign() == 0 {
			at++
		}
		if at == len(rows) {
			continue
		}
		next := len(given)
		given[shaft] = next
		rows[next], rows[at] = rows[at], rows[next]
		divide(rows[next], rows[next][shaft])
		for i := range rows {
			if i != next {
				subtract(rows[i], rows[next], rows[i][shaft])
			}
		}
	}
	var all [][]*big.Rat
	for shaft := range t.Shafts {
		if _, ok := given[shaft]; ok {
			continue
		}
		var motion []*big.Rat
		for range t.Shafts {
			motion = append(motion, new(big.Rat))
		}
		motion[shaft].SetInt64(1)
		for other, i := range given {
			motion[other].Neg(rows[i][shaft])
		}
		all = append(all, motion)
	}
	return all
}

func divide(l []*big.Rat, by *big.Rat) {
	by = new(big.Rat).Set(by)
	for _, x := range l {
		x.Quo(x, by)
	}
}

func subtract(l, other []*big.Rat, times *big.Rat) {
	times = new(big.Rat).Set(times)
	for i, x := range l {
		x.Sub(x, new(big.Rat).Mul(other[i], times))
	}
}

func wantJammed(t api.Train, in int) bool {
	return !slices.ContainsFunc(wantMotions(t), func(m []*big.Rat) bool { return m[in].Sign() != 0 })
}

// wantRatio returns the ratio of out to in, or ErrJam or ErrLoose.
func wantRatio(t api.Train, in, out int) (*big.Rat, api.Errno) {
	motions := wantMotions(t)
	i := slices.IndexFunc(motions, func(m []*big.Rat) bool { return m[in].Sign() != 0 })
	if i < 0 {
		return nil, api.ErrJam
	}
	ratio := new(big.Rat).Quo(motions[i][out], motions[i][in])
	for _, m := range motions {
		if new(big.Rat).Mul(m[in], ratio).Cmp(m[out]) != 0 {
			return nil, api.ErrLoose
		}
	}
	return ratio, api.OK
}

func inRange(l []int) bool {
	return !slices.ContainsFunc(l, func(n int) bool { return n < -most || n > most })
}

// wantSum returns the sum over all meshes of factor times their factors.
func wantSum(t api.Train, by []int) []*big.Int {
	var sum []*big.Int
	for range t.Shafts {
		sum = append(sum, new(big.Int))
	}
	for i, m := range t.Meshes {
		for shaft, n := range wantFactors(t, m) {
			sum[shaft].Add(sum[shaft], new(big.Int).Mul(big.NewInt(int64(by[i])), big.NewInt(int64(n))))
		}
	}
	return sum
}

func wantMotion(t api.Train, l []int) bool {
	if len(l) != t.Shafts || !inRange(l) {
		return false
	}
	for _, m := range t.Meshes {
		sum := new(big.Int)
		for shaft, n := range wantFactors(t, m) {
			sum.Add(sum, new(big.Int).Mul(big.NewInt(int64(n)), big.NewInt(int64(l[shaft]))))
		}
		if sum.Sign() != 0 {
			return false
		}
	}
	return true
}

func wantGiven(t api.Train, p api.GearProof) bool {
	return len(p.Factors) == len(t.Meshes) && inRange(p.Factors)
}

func wantProvesJam(t api.Train, in int, p api.GearProof) bool {
	if !wantGiven(t, p) || len(p.Motion) > 0 || len(p.Slip) > 0 {
		return false
	}
	for shaft, n := range wantSum(t, p.Factors) {
		if shaft == in && n.Sign() <= 0 || shaft != in && n.Sign() != 0 {
			return false
		}
	}
	return true
}

func wantProvesRatio(t api.Train, in, out, num, den int, p api.GearProof) bool {
	if !wantGiven(t, p) || len(p.Slip) > 0 || !wantMotion(t, p.Motion) || p.Motion[in] <= 0 {
		return false
	}
	x, y := big.NewInt(int64(num)), big.NewInt(int64(den))
	if den <= 0 || new(big.Int).GCD(nil, nil, new(big.Int).Abs(x), y).Cmp(big.NewInt(1)) != 0 {
		return false
	}
	sum := wantSum(t, p.Factors)
	for shaft, n := range sum {
		if n.Sign() != 0 && (in == out || shaft != in && shaft != out) {
			return false
		}
	}
	if in == out {
		return num == 1 && den == 1
	}
	s, rest := new(big.Int).QuoRem(sum[out], y, new(big.Int))
	return rest.Sign() == 0 && s.Sign() > 0 && new(big.Int).Neg(sum[in]).Cmp(x.Mul(x, s)) == 0
}

func wantProvesLoose(t api.Train, in, out int, p api.GearProof) bool {
	if len(p.Factors) > 0 || !wantMotion(t, p.Motion) || !wantMotion(t, p.Slip) {
		return false
	}
	return p.Motion[in] > 0 && p.Slip[in] == 0 && p.Slip[out] > 0
}

// wantOpen returns a train without some of its meshes.
func wantOpen(t api.Train, meshes []int) api.Train {
	rest := api.Train{Shafts: t.Shafts}
	for i, m := range t.Meshes {
		if !slices.Contains(meshes, i) {
			rest.Meshes = append(rest.Meshes, m)
		}
	}
	return rest
}

// wantSlips goes through all sets of clutches.
func wantSlips(t api.Train, in int) ([]int, api.Errno) {
	var clutches, best []int
	for i, m := range t.Meshes {
		if m.Kind == api.MeshClutch {
			clutches = append(clutches, i)
		}
	}
	e := api.ErrNone
	for set := range 1 << len(clutches) {
		var open []int
		for i, c := range clutches {
			if set>>i&1 == 1 {
				open = append(open, c)
			}
		}
		worse := len(open) > len(best) || len(open) == len(best) && slices.Compare(open, best) > 0
		if e == api.OK && worse || wantJammed(wantOpen(t, open), in) {
			continue
		}
		best, e = open, api.OK
	}
	return best, e
}

func wantPlaces(p api.Piston, ticks int) []int {
	places := []int{0}
	for t := 1; t <= ticks; t++ {
		place := places[t-1]
		if p.Lift[(t-1)%len(p.Lift)] >= p.Open {
			place = min(place+1, p.Stroke)
		} else {
			place = max(place-1, 0)
		}
		places = append(places, place)
	}
	return places
}

func randomMesh(r *rand.Rand, shafts, teeth int, kinds []uint8) api.Mesh {
	l := r.Perm(shafts)
	for {
		n, m := 1+r.Intn(teeth), 1+r.Intn(teeth)
		switch kind := kinds[r.Intn(len(kinds))]; {
		case kind == api.MeshFixed:
			return fixed(l[0])
		case kind == api.MeshDiff && shafts > 2:
			return diff(l[0], l[1], l[2])
		case kind == api.MeshPlanet && shafts > 2:
			return planet(l[0], l[1], l[2], n, m)
		case (kind == api.MeshSame || kind == api.MeshClutch) && shafts > 1:
			return api.Mesh{Kind: kind, A: l[0], B: l[1]}
		case (kind == api.MeshGears || kind == api.MeshChain) && shafts > 1:
			return api.Mesh{Kind: kind, A: l[0], B: l[1], N: n, M: m}
		case shafts == 1:
			return fixed(0)
		}
	}
}

// anyKinds has few shafts that are held, so that not all trains are jammed.
var anyKinds = []uint8{1, 1, 1, 2, 2, 3, 4, 5, 5, 6, 6, 7, 7}

// randomTrain often has as many teeth on all wheels, so that equations depend on each other.
func randomTrain(r *rand.Rand, shafts, meshes int) api.Train {
	t := api.Train{Shafts: 1 + r.Intn(shafts)}
	teeth := []int{1, 2, 24}[r.Intn(3)]
	for range r.Intn(min(meshes, t.Shafts+2) + 1) {
		t.Meshes = append(t.Meshes, randomMesh(r, t.Shafts, teeth, anyKinds))
	}
	return t
}

func randomPiston(r *rand.Rand) api.Piston {
	p := api.Piston{Open: r.Intn(101), Stroke: 1 + r.Intn(20)}
	for range 1 + r.Intn(24) {
		p.Lift = append(p.Lift, r.Intn(101))
	}
	return p
}

func wantErr(t *testing.T, what any, got, want api.Errno) {
	t.Helper()
	if got != want {
		t.Errorf("%v: got error %d, want %d", what, got, want)
	}
}

func same[T comparable](t *testing.T, what any, got, want []T) {
	t.Helper()
	if !slices.Equal(got, want) {
		t.Errorf("%v: got %v, want %v", what, got, want)
	}
}

func isZero(v any) bool {
	x := reflect.ValueOf(v)
	if x.Kind() == reflect.Slice {
		return x.Len() == 0
	}
	return x.IsZero()
}

// result is a value that a function returns, and its error.
type result struct {
	value any
	e     api.Errno
}

func of[T any](v T, e api.Errno) result { return result{v, e} }

// fraction is what Ratio returns.
type fraction struct {
	num, den int
	p        api.GearProof
}

func ratio(t api.Train, in, out int) result {
	num, den, p, e := gear.Ratio(t, in, out)
	return result{fraction{num, den, p}, e}
}

// span is what Cycle returns.
type span struct{ start, length int }

func cycle(l []api.Piston) result {
	start, length, e := gear.Cycle(l)
	return result{span{start, length}, e}
}

func withTrain(t api.Train, mesh, in, out, num, den int, clutches []int, p api.GearProof) map[string]result {
	return map[string]result{
		"Check":      {0, gear.Check(t)},
		"Equation":   of(gear.Equation(t, mesh)),
		"Free":       of(gear.Free(t)),
		"Ratio":      ratio(t, in, out),
		"CheckRatio": {0, gear.CheckRatio(t, in, out, num, den, p)},
		"CheckJam":   {0, gear.CheckJam(t, in, p)},
		"CheckLoose": {0, gear.CheckLoose(t, in, out, p)},
		"Open":       of(gear.Open(t, clutches)),
		"Slips":      of(gear.Slips(t, in)),
	}
}

func allFail(t *testing.T, what any, calls map[string]result, want api.Errno) {
	t.Helper()
	for name, r := range calls {
		if r.e != want || !isZero(r.value) {
			t.Errorf("%v: %s: got %v with error %d, want error %d", what, name, r.value, r.e, want)
		}
	}
}
