package gear_test

import (
	"math/rand"
	"slices"
	"strings"
	"testing"

	"studwork/api"
	"studwork/gear"
)

// oneOfEach is a train with meshes of all kinds.
func oneOfEach() api.Train {
	return train(8, gears(0, 1, 8, 24), chain(1, 2, 12, 5), pieces(3, 2), fixed(7), diff(4, 5, 6), planet(6, 0, 3, 9, 24), clutch(5, 7))
}

func repeat(n int, m api.Mesh) []api.Mesh { return slices.Repeat([]api.Mesh{m}, n) }

func TestP4_1ValidTrains(t *testing.T) {
	for i, x := range []api.Train{
		first(), three(), cage(), oneOfEach(),
		train(1), train(8), train(1, fixed(0), fixed(0)),
		train(2, repeat(16, clutch(0, 1))...),
		train(2, gears(0, 1, 1, 24), gears(1, 0, 24, 1), chain(1, 0, 1, 1), chain(0, 1, 24, 24)),
		train(3, planet(2, 1, 0, 24, 1), planet(0, 2, 1, 1, 24)),
		train(8, fixed(0), fixed(7), diff(7, 0, 6), diff(0, 6, 7)),
	} {
		wantErr(t, i, gear.Check(x), api.OK)
	}
}

func TestP4_1ErrTrain(t *testing.T) {
	for _, x := range []api.Train{
		{}, train(-1), train(9), train(9, fixed(8)), train(0, fixed(0)),
		train(2, repeat(17, clutch(0, 1))...),
		plus(first(), api.Mesh{}), plus(first(), api.Mesh{Kind: 8, A: 0, B: 1}), plus(first(), api.Mesh{Kind: 255}),
		train(1, pieces(0, 0)), train(2, diff(0, 1, 1)), train(2, diff(0, 1, 2)),
	} {
		allFail(t, x, withTrain(x, 99, -1, -1, 0, 0, []int{5, 5}, api.GearProof{}), api.ErrTrain)
		allFail(t, x, withTrain(x, 0, 0, 0, 1, 1, nil, api.GearProof{Motion: []int{1, 1, 1}}), api.ErrTrain)
	}
	for _, n := range extremes {
		wantErr(t, n, gear.Check(train(n)), api.ErrTrain)
	}
}

// Each field of a mesh is set to each of some numbers.
func TestP4_1FieldsOfMeshes(t *testing.T) {
	valid := []api.Mesh{gears(0, 1, 2, 3), chain(2, 1, 24, 1), pieces(0, 1), fixed(1), diff(1, 0, 2), planet(0, 1, 2, 3, 4), planet(2, 1, 0, 24, 24), clutch(0, 2)}
	for _, m := range valid {
		wantErr(t, m, gear.Check(train(3, m)), api.OK)
		for _, n := range append([]int{0, 1, 2, 3, 4, 24}, extremes...) {
			for field := range 5 {
				checkMesh(t, with(m, field, n))
			}
		}
		for kind := range 256 {
			m.Kind = uint8(kind)
			checkMesh(t, m)
		}
	}
}

// checkMesh checks whether a mesh is valid as the second one of a train with 3 shafts.
func checkMesh(t *testing.T, m api.Mesh) {
	t.Helper()
	x := train(3, fixed(0), m)
	if wantMesh(m, 3) {
		wantErr(t, m, gear.Check(x), api.OK)
	} else {
		allFail(t, m, withTrain(x, 0, 0, 1, 1, 1, nil, api.GearProof{}), api.ErrTrain)
	}
}

// wantMesh tells whether a mesh is valid by the names of its fields.
func wantMesh(m api.Mesh, shafts int) bool {
	names := []string{"", "ABNM", "ABNM", "AB", "A", "ABC", "ABCNM", "AB"}
	if m.Kind == 0 || int(m.Kind) >= len(names) {
		return false
	}
	var used []int
	for i, n := range []int{m.A, m.B, m.C, m.N, m.M} {
		name := "ABCNM"[i : i+1]
		switch {
		case !strings.Contains(names[m.Kind], name):
			if n != 0 {
				return false
			}
		case name == "N" || name == "M":
			if n < 1 || n > 24 {
				return false
			}
		default:
			if n < 0 || n >= shafts || slices.Contains(used, n) {
				return false
			}
			used = append(used, n)
		}
	}
	return true
}

// with returns a mesh with another number in one of its fields.
func with(m api.Mesh, field, n int) api.Mesh {
	*[]*int{&m.A, &m.B, &m.C, &m.N, &m.M}[field] = n
	return m
}

func TestP4_1Equation(t *testing.T) {
	for i, want := range [][]int{
		{8, 24, 0, 0, 0, 0, 0, 0},
		{0, 12, -5, 0, 0, 0, 0, 0},
		{0, 0, -1, 1, 0, 0, 0, 0},
		{0, 0, 0, 0, 0, 0, 0, 1},
		{0, 0, 0, 0, 1, 1, -2, 0},
		{24, 0, 0, -33, 0, 0, 9, 0},
		{0, 0, 0, 0, 0, 1, 0, -1},
	} {
		got, e := gear.Equation(oneOfEach(), i)
		wantErr(t, i, e, api.OK)
		same(t, i, got, want)
	}
	got, e := gear.Equation(train(1, fixed(0)), 0)
	wantErr(t, "one shaft", e, api.OK)
	same(t, "one shaft", got, []int{1})
}

func TestP4_1EquationErrArg(t *testing.T) {
	for _, n := range append([]int{-1, 7, 8}, extremes...) {
		got, e := gear.Equation(oneOfEach(), n)
		if e != api.ErrArg || len(got) > 0 {
			t.Error(n, got, e)
		}
	}
	_, e := gear.Equation(train(1), 0)
	wantErr(t, "no meshes", e, api.ErrArg)
}

func TestP4_1Free(t *testing.T) {
	for i, x := range []struct {
		t    api.Train
		want int
	}{
		{first(), 1}, {cage(), 2}, {three(), 0}, {train(8), 8}, {train(1), 1}, {train(1, fixed(0)), 0},
		{plus(cage(), fixed(1)), 1}, {plus(first(), first().Meshes...), 1}, {plus(first(), clutch(0, 1)), 0},
		{train(8, repeat(16, clutch(0, 7))...), 7}, {train(4, gears(0, 1, 8, 8), gears(1, 2, 8, 8), gears(2, 3, 8, 8), gears(3, 0, 8, 8)), 1},
		{oneOfEach(), 1},
	} {
		got, e := gear.Free(x.t)
		if e != api.OK || got != x.want {
			t.Error(i, got, e)
		}
	}
}

func TestP4_1FreeOfAnyTrains(t *testing.T) {
	rnd := rand.New(rand.NewSource(1))
	counts := map[int]int{}
	for range 3000 {
		x := randomTrain(rnd, 8, 16)
		got, e := gear.Free(x)
		if want := len(wantMotions(x)); e != api.OK || got != want {
			t.Fatal(x, got, e, want)
		}
		counts[got]++
	}
	for n := range 7 {
		if counts[n] < 20 {
			t.Error("too few trains of", n, counts)
		}
	}
}

func TestP4_4Open(t *testing.T) {
	x := train(4, clutch(0, 1), gears(0, 1, 8, 24), clutch(1, 2), pieces(1, 3), clutch(3, 2))
	for _, l := range [][]int{nil, {}, {0}, {2}, {4}, {0, 2}, {0, 4}, {2, 4}, {0, 2, 4}} {
		got, e := gear.Open(x, l)
		want := wantOpen(x, l)
		if e != api.OK || got.Shafts != 4 || !slices.Equal(got.Meshes, want.Meshes) {
			t.Error(l, got, e)
		}
	}
	got, e := gear.Open(train(3), nil)
	if e != api.OK || got.Shafts != 3 || len(got.Meshes) > 0 {
		t.Error(got, e)
	}
}

func TestP4_4OpenErrArg(t *testing.T) {
	x := train(4, clutch(0, 1), gears(0, 1, 8, 24), clutch(1, 2), pieces(1, 3), clutch(3, 2))
	bad := [][]int{{1}, {3}, {5}, {-1}, {0, 0}, {2, 0}, {4, 2}, {0, 1}, {0, 1, 2}, {0, 2, 2}, {0, 2, 4, 4}, {0, 2, 4, 5}, {0, -1}}
	for _, n := range extremes {
		bad = append(bad, []int{n}, []int{0, n}, []int{n, 4})
	}
	for _, l := range bad {
		got, e := gear.Open(x, l)
		if e != api.ErrArg || !isZero(got) {
			t.Error(l, got, e)
		}
	}
	_, e := gear.Open(train(3), []int{0})
	wantErr(t, "no meshes", e, api.ErrArg)
}
