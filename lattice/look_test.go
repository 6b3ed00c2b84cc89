package lattice_test

import (
	"math/rand"
	"slices"
	"testing"

	"studwork/api"
	"studwork/lattice"
)

func TestP1_6SymmetriesExamples(t *testing.T) {
	all := make([]int, 24)
	for i := range all {
		all[i] = i
	}
	cube := api.Kind{Cells: []api.Cell{cell(3, 4, 5)}, Weight: 1}
	studs := cube
	studs.Knobs = freeKnobs(cube.Cells, func() uint8 { return 1 })
	oneStud := cube
	oneStud.Knobs = []api.Knob{knob(3, 4, 5, 4, 1)}
	sorts := plate()
	sorts.Knobs[0].Sort = 3
	moved := plate()
	moved.Knobs = moved.Knobs[2:]
	for i, x := range []struct {
		k    api.Kind
		want []int
	}{
		{plate(), []int{0, 2}},
		{cube, all},
		{studs, all},
		{oneStud, []int{0, 1, 2, 3}},
		{sorts, []int{0}},
		{moved, []int{0}},
		{box(2, 2, 1), []int{0, 1, 2, 3, 8, 9, 10, 11}},
		{corner(), []int{0}},
	} {
		s, e := lattice.Symmetries(x.k)
		wantErr(t, i, e, api.OK)
		same(t, i, s, x.want)
	}
}

func TestP1_6SymmetriesErrors(t *testing.T) {
	for name, k := range badKinds() {
		allFail(t, name, map[string]result{"Symmetries": of(lattice.Symmetries(k))}, api.ErrKind)
	}
}

func TestP1_6NormalExamples(t *testing.T) {
	plain := box(2, 1, 1)
	l := []api.Kind{plate(), plain, {Cells: []api.Cell{cell(15, 0, 0)}, Weight: 1}}
	for _, x := range [][2]api.Brick{
		{brick(0, 5, 0, 0, 2), brick(0, 4, 0, 0, 0)},
		{brick(0, 5, 0, 0, 3), brick(0, 5, -1, 0, 1)},
		{brick(0, 5, 0, 0, 1), brick(0, 5, 0, 0, 1)},
		{brick(1, 5, 0, 0, 12), brick(1, 5, 0, 0, 0)},
		{brick(1, 0, 0, 0, 10), brick(1, -1, 0, 0, 0)},
		{{Kind: 1, Turn: 2, Color: 9}, {Kind: 1, At: cell(-1, 0, 0), Color: 9}},
		{brick(2, 0, 0, 0, 2), brick(2, -30, 0, 0, 0)},
	} {
		b, e := lattice.Normal(l, x[0])
		if e != api.OK || b != x[1] {
			t.Error(x, b, e)
		}
	}
}

// The brick with the least turn may be out of range: then it is the brick itself, also if one with another turn were in range.
func TestP1_6NormalOutOfRange(t *testing.T) {
	l := []api.Kind{plate(), {Cells: []api.Cell{cell(15, 0, 0)}, Weight: 1}}
	for _, x := range [][2]api.Brick{
		{brick(0, -999, 0, 0, 2), brick(0, -1000, 0, 0, 0)},
		{brick(0, -1000, 0, 0, 2), brick(0, -1000, 0, 0, 2)},
		{brick(0, 0, -1000, 0, 3), brick(0, 0, -1000, 0, 3)},
		{brick(1, -970, 0, 0, 2), brick(1, -1000, 0, 0, 0)},
		{brick(1, -971, 0, 0, 2), brick(1, -971, 0, 0, 2)},
		{brick(1, -971, 0, 0, 10), brick(1, -971, 0, 0, 10)},
	} {
		b, e := lattice.Normal(l, x[0])
		if e != api.OK || b != x[1] {
			t.Error(x, b, e)
		}
	}
}

// wantSame returns the place of the brick that has a turn and looks like another one, if there is one.
func wantSame(l []api.Kind, b api.Brick, turn uint8) (api.Brick, bool) {
	o := api.Brick{Kind: b.Kind, Turn: turn, Color: b.Color}
	o.At = minus(wantCells(l[b.Kind], b)[0], wantCells(l[b.Kind], o)[0])
	return o, alike(l, b, o)
}

func TestP1_6NormalOfMany(t *testing.T) {
	r := rand.New(rand.NewSource(29))
	for range 100 {
		l := randomKinds(r)
		for range 24 {
			b := randomBrick(r, len(l), 20)
			if r.Intn(4) == 0 {
				b.At.X, b.At.Y = 1000, -1000
			}
			want := b
			for turn := range uint8(24) {
				if o, good := wantSame(l, b, turn); good {
					if max(o.At.X, o.At.Y, o.At.Z) <= 1000 && min(o.At.X, o.At.Y, o.At.Z) >= -1000 {
						want = o
					}
					break
				}
			}
			if n, e := lattice.Normal(l, b); e != api.OK || n != want {
				t.Error(b, n, want, e)
			}
		}
	}
}

func TestP1_10SymmetriesAreAGroup(t *testing.T) {
	r := rand.New(rand.NewSource(31))
	kinds := append(faced(), box(3, 1, 1), box(2, 2, 2), box(3, 2, 1), hollow(1, 1), hollow(3, 4), core(5, 5))
	for range 200 {
		kinds = append(kinds, randomKind(r))
	}
	for _, k := range kinds {
		s, e := lattice.Symmetries(k)
		wantErr(t, k, e, api.OK)
		if !slices.Contains(s, 0) || 24%len(s) != 0 || !slices.IsSorted(s) {
			t.Error(k, s)
		}
		for _, a := range s {
			for _, b := range s {
				if n, _ := lattice.Compose(a, b); !slices.Contains(s, n) {
					t.Error(k, s, a, b, n)
				}
			}
		}
		var want []int
		for turn := range uint8(24) {
			if _, good := wantSame([]api.Kind{k}, api.Brick{}, turn); good {
				want = append(want, int(turn))
			}
		}
		same(t, k, s, want)
	}
}

// Bricks have the same normal brick if they look alike, and only then.
func TestP1_10Normal(t *testing.T) {
	r := rand.New(rand.NewSource(37))
	for range 60 {
		l := append(randomKinds(r), plate())
		var bricks []api.Brick
		for range 8 {
			b := randomBrick(r, len(l), 5)
			bricks = append(bricks, b)
			for turn := range uint8(24) {
				if o, good := wantSame(l, b, turn); good {
					bricks = append(bricks, o)
				}
			}
			b.Color ^= 1
			bricks = append(bricks, b)
		}
		for _, a := range bricks {
			x, e := lattice.Normal(l, a)
			wantErr(t, a, e, api.OK)
			if !alike(l, a, x) || x.Turn > a.Turn {
				t.Error("not normal", a, x)
			}
			if again, _ := lattice.Normal(l, x); again != x {
				t.Error("not its own normal brick", x, again)
			}
			for _, b := range bricks[:min(30, len(bricks))] {
				y, _ := lattice.Normal(l, b)
				if (x == y) != alike(l, a, b) {
					t.Error(a, b, x, y)
				}
			}
		}
	}
}
