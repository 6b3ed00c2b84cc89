package lattice_test

import (
	"fmt"
	"math/rand"
	"testing"

	"studwork/api"
	"studwork/lattice"
)

// corner is an L of three cells with a stud and a tube on each.
func corner() api.Kind {
	return api.Kind{
		Cells: []api.Cell{{}, cell(1, 0, 0), cell(0, 1, 0)},
		Knobs: []api.Knob{
			knob(0, 0, 0, 4, 1), knob(0, 0, 0, 5, 2),
			knob(1, 0, 0, 4, 1), knob(1, 0, 0, 5, 2),
			knob(0, 1, 0, 4, 1), knob(0, 1, 0, 5, 2),
		},
		Weight: 3,
	}
}

func TestP1_1ValidKinds(t *testing.T) {
	most := box(4, 3, 2)
	many := box(6, 4, 1)
	many.Knobs = freeKnobs(many.Cells, func() uint8 { return 6 })[:api.MaxKnobs]
	for i, k := range []api.Kind{
		plate(), corner(), most, many,
		{Cells: []api.Cell{{}}, Weight: 1},
		{Cells: []api.Cell{{}}, Knobs: []api.Knob{}, Weight: 100},
		{Cells: []api.Cell{{}, cell(15, 15, 15)}, Knobs: []api.Knob{knob(15, 15, 15, 0, 3)}, Weight: 50},
		{Cells: []api.Cell{cell(7, 7, 7)}, Knobs: []api.Knob{knob(7, 7, 7, 0, 1), knob(7, 7, 7, 1, 2), knob(7, 7, 7, 2, 3), knob(7, 7, 7, 3, 4), knob(7, 7, 7, 4, 5), knob(7, 7, 7, 5, 6)}, Weight: 1},
		{Cells: []api.Cell{cell(1, 0, 0), cell(0, 1, 0), cell(0, 0, 1)}, Weight: 1},
	} {
		wantErr(t, i, lattice.CheckKind(k), api.OK)
		wantErr(t, i, lattice.CheckKinds([]api.Kind{plate(), k}), api.OK)
	}
	r := rand.New(rand.NewSource(1))
	for i := range 200 {
		wantErr(t, i, lattice.CheckKind(randomKind(r)), api.OK)
	}
}

// badKinds are kinds that differ from valid ones in one thing.
func badKinds() map[string]api.Kind {
	bad := map[string]api.Kind{"zero": {}}
	change := func(name string, how func(k *api.Kind)) {
		k := corner()
		how(&k)
		bad[name] = k
	}
	change("no cells", func(k *api.Kind) { k.Cells, k.Knobs = nil, nil })
	change("25 cells", func(k *api.Kind) { k.Cells, k.Knobs = box(5, 5, 1).Cells, nil })
	change("49 knobs", func(k *api.Kind) {
		k.Cells = box(6, 4, 1).Cells
		k.Knobs = freeKnobs(k.Cells, func() uint8 { return 1 })[:api.MaxKnobs+1]
	})
	change("cells swapped", func(k *api.Kind) { k.Cells[0], k.Cells[1] = k.Cells[1], k.Cells[0] })
	change("cells by X first", func(k *api.Kind) {
		k.Cells, k.Knobs = []api.Cell{cell(0, 1, 0), cell(1, 0, 0)}, nil
	})
	change("cells by Y first", func(k *api.Kind) {
		k.Cells, k.Knobs = []api.Cell{cell(0, 0, 1), cell(0, 1, 0)}, nil
	})
	change("cell twice", func(k *api.Kind) { k.Cells[1], k.Knobs = k.Cells[0], nil })
	for _, n := range append([]int{16}, extremes...) {
		change(fmt.Sprint("cell X ", n), func(k *api.Kind) { k.Cells, k.Knobs = []api.Cell{cell(n, 0, 0)}, nil })
		change(fmt.Sprint("cell Y ", n), func(k *api.Kind) { k.Cells, k.Knobs = []api.Cell{cell(0, n, 0)}, nil })
		change(fmt.Sprint("cell Z ", n), func(k *api.Kind) { k.Cells, k.Knobs = []api.Cell{cell(0, 0, n)}, nil })
		change(fmt.Sprint("knob at ", n), func(k *api.Kind) { k.Knobs = []api.Knob{knob(n, n, n, 0, 1)} })
	}
	for _, n := range []int{0, 101, -1, -100, extremes[0], extremes[len(extremes)-1]} {
		change(fmt.Sprint("weight ", n), func(k *api.Kind) { k.Weight = n })
	}
	for _, n := range []uint8{0, 7, 8, 255} {
		change(fmt.Sprint("sort ", n), func(k *api.Kind) { k.Knobs[3].Sort = n })
	}
	for _, n := range []uint8{6, 7, 255} {
		change(fmt.Sprint("direction ", n), func(k *api.Kind) { k.Knobs[5].Dir = n })
	}
	change("knob at no cell", func(k *api.Kind) { k.Knobs[5].At = cell(1, 1, 0) })
	change("knob into a cell", func(k *api.Kind) { k.Knobs[0].Dir = 0 })
	change("knob twice", func(k *api.Kind) { k.Knobs[1] = k.Knobs[0] })
	change("two sorts on a face", func(k *api.Kind) { k.Knobs[1].Dir = 4 })
	change("knobs by direction first", func(k *api.Kind) { k.Knobs[1], k.Knobs[2] = k.Knobs[2], k.Knobs[1] })
	change("directions swapped", func(k *api.Kind) { k.Knobs[0], k.Knobs[1] = k.Knobs[1], k.Knobs[0] })
	return bad
}

func TestP1_1InvalidKinds(t *testing.T) {
	for name, k := range badKinds() {
		wantErr(t, name, lattice.CheckKind(k), api.ErrKind)
		wantErr(t, name, lattice.CheckKinds([]api.Kind{plate(), k}), api.ErrKind)
	}
}

func TestP1_1Lists(t *testing.T) {
	var l []api.Kind
	wantErr(t, "nil", lattice.CheckKinds(l), api.OK)
	wantErr(t, "empty", lattice.CheckKinds([]api.Kind{}), api.OK)
	for range api.MaxKinds {
		l = append(l, plate())
	}
	wantErr(t, "16 kinds", lattice.CheckKinds(l), api.OK)
	wantErr(t, "17 kinds", lattice.CheckKinds(append(l, plate())), api.ErrMany)
	wantErr(t, "17 kinds, one bad", lattice.CheckKinds(append(l, api.Kind{})), api.ErrMany)
	l[15] = api.Kind{}
	wantErr(t, "16 kinds, one bad", lattice.CheckKinds(l), api.ErrKind)
}

// The error of the kinds comes before all others.
func TestP1_1KindsFirst(t *testing.T) {
	bad := []api.Brick{brick(-1, 0, 0, 0, 0), {Turn: 24}}
	for want, l := range map[api.Errno][]api.Kind{
		api.ErrMany: make([]api.Kind, api.MaxKinds+1),
		api.ErrKind: {plate(), {}},
	} {
		for _, b := range append(bad, api.Brick{}) {
			allFail(t, b, withBrick(l, b), want)
		}
		for _, m := range []api.Model{{}, model(bad...), {Bricks: make([]api.Brick, 2)}, {Bricks: make([]api.Brick, 41)}} {
			allFail(t, len(m.Bricks), withModel(l, m), want)
			p, e := lattice.Overlaps(l, m)
			if e != want || len(p) > 0 {
				t.Error(p, e)
			}
			if x, e := lattice.Move(l, m, -1, cell(1001, 0, 0)); e != want || len(x.Bricks) > 0 {
				t.Error(x, e)
			}
		}
	}
}
