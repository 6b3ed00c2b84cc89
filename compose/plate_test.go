package compose_test

import (
	"math/rand"
	"slices"
	"testing"

	"studwork/api"
	"studwork/compose"
	"studwork/lattice"
)

func TestP7_1Plates(t *testing.T) {
	for _, l := range [][]api.Plate{
		few(9, 9),
		few(0, 99),
		list(plate(1, 1, 0, 0)),
		list(plate(8, 8, 99, 15)),
		list(plate(1, 2, 1, 1), plate(1, 2, 1, 2), plate(1, 2, 1, 15)),
		list(plate(1, 1, 1, 5), plate(1, 2, 1, 0), plate(1, 3, 1, 4), plate(2, 2, 1, 0)),
		list(plate(1, 8, 1, 9), plate(2, 2, 1, 3), plate(2, 2, 1, 4), plate(2, 8, 1, 0), plate(3, 3, 1, 0)),
		list(plate(1, 1, 1, 0), plate(1, 2, 1, 0), plate(1, 3, 1, 0), plate(1, 4, 1, 0), plate(2, 2, 1, 0), plate(2, 3, 1, 0), plate(2, 4, 1, 0), plate(4, 4, 1, 0)),
	} {
		wantErr(t, l, compose.CheckPlates(l), api.OK)
	}
	for _, l := range [][]api.Plate{
		nil,
		list(plate(0, 1, 1, 0)),
		list(plate(-1, 1, 1, 0)),
		list(plate(0, 0, 1, 0)),
		list(plate(2, 1, 1, 0)),
		list(plate(1, 9, 1, 0)),
		list(plate(9, 9, 1, 0)),
		list(plate(9, 8, 1, 0)),
		list(plate(1, 1, -1, 0)),
		list(plate(1, 1, 100, 0)),
		list(plate(1, 1, 1, 16)),
		list(plate(1, 1, 1, 255)),
		list(plate(1, 2, 1, 0), plate(1, 1, 1, 0)),
		list(plate(2, 2, 1, 0), plate(1, 3, 1, 0)),
		list(plate(2, 3, 1, 0), plate(2, 2, 1, 0)),
		list(plate(1, 2, 1, 2), plate(1, 2, 1, 1)),
		list(plate(1, 2, 1, 0), plate(1, 2, 1, 0)),
		list(plate(1, 2, 1, 3), plate(1, 2, 2, 3)),
		list(plate(1, 2, 1, 0), plate(1, 2, 1, 1)),
		list(plate(1, 1, 1, 1), plate(1, 2, 1, 0), plate(1, 2, 1, 1)),
		list(plate(1, 2, 1, 0), plate(1, 2, 1, 1), plate(1, 2, 1, 2)),
		list(plate(1, 2, 1, 1), plate(1, 2, 1, 0)),
		append(few(1, 1), plate(3, 2, 1, 0)),
		slices.Repeat(list(plate(1, 1, 1, 0)), 9),
		list(plate(1, 1, 1, 1), plate(1, 1, 1, 2), plate(1, 1, 1, 3), plate(1, 1, 1, 4), plate(1, 1, 1, 5), plate(1, 1, 1, 6), plate(1, 1, 1, 7), plate(1, 1, 1, 8), plate(1, 1, 1, 9)),
	} {
		wantErr(t, l, compose.CheckPlates(l), api.ErrPlate)
		allFail(t, l, call{s: first(), l: l, c: singles()}.ofShape(), api.ErrPlate)
		allFail(t, l, call{l: l, c: singles()}.ofShape(), api.ErrShape)
		kinds, e := compose.Kinds(l)
		allFail(t, l, map[string]result{"Kinds": of(kinds, e)}, api.ErrPlate)
	}
}

func TestP7_1AnyPlates(t *testing.T) {
	r := rand.New(rand.NewSource(3))
	valid := 0
	for range 20000 {
		var l []api.Plate
		for range r.Intn(10) {
			l = append(l, plate(r.Intn(4), 1+r.Intn(3)+r.Intn(30)/29*6, r.Intn(105)-1, uint8(r.Intn(4)*(r.Intn(16)/2))))
		}
		if r.Intn(8) > 0 {
			l = slices.DeleteFunc(l, func(p api.Plate) bool { return p.W == 0 || p.W > p.D || p.Color > 15 })
			slices.SortFunc(l, func(a, b api.Plate) int {
				return 10000*(a.W-b.W) + 100*(a.D-b.D) + int(a.Color) - int(b.Color)
			})
		}
		want := api.ErrPlate
		if wantPlates(l) {
			want = api.OK
			valid++
		}
		wantErr(t, l, compose.CheckPlates(l), want)
	}
	if valid < 2000 {
		t.Error(valid)
	}
}

func needs(t *testing.T, s api.Shape, l []api.Plate, want int) {
	t.Helper()
	n, e := compose.Least(s, l)
	wanted := api.OK
	if want == 0 {
		wanted = api.ErrNone
	}
	wantErr(t, l, e, wanted)
	if n != want {
		t.Error(s, l, n, want)
	}
}

func TestP7_3Least(t *testing.T) {
	needs(t, first(), few(9, 9), 2)
	needs(t, first(), few(9, 1), 3)
	needs(t, first(), few(3, 0), 0)
	needs(t, first(), few(4, 0), 4)
	needs(t, first(), few(0, 2), 2)
	needs(t, first(), few(1, 1), 0)
	needs(t, first(), few(0, 0), 0)
	needs(t, first(), few(2, 1), 3)
	// Colours and places do not matter, nor do plates that are too large.
	needs(t, first(), list(plate(1, 2, 2, 9)), 2)
	needs(t, shape(2, 1, 1, 1, 2), list(plate(8, 8, 1, 9)), 1)
	// The largest plates are not always the last ones: 3 * 3 cells are more than 1 * 8, and 1 * 8 more than 2 * 2.
	needs(t, filled(4, 4, 1, 1), list(plate(1, 8, 1, 0), plate(2, 2, 9, 0)), 3)
	needs(t, filled(4, 4, 1, 1), list(plate(1, 8, 2, 0), plate(2, 2, 9, 0), plate(3, 3, 1, 0)), 2)
	needs(t, filled(4, 4, 1, 1), list(plate(1, 1, 99, 0), plate(1, 8, 1, 0), plate(2, 2, 1, 0), plate(3, 3, 0, 0)), 6)
	needs(t, filled(4, 4, 1, 1), list(plate(1, 1, 16, 0)), 16)
	needs(t, filled(4, 4, 1, 1), list(plate(1, 1, 15, 0)), 0)
	needs(t, shape(3, 1, 1, 0, 7, 0), list(plate(1, 1, 1, 0)), 1)
}

func TestP7_3AnyLeast(t *testing.T) {
	r := rand.New(rand.NewSource(4))
	for range 1000 {
		s, l := randomShape(r, 1+r.Intn(16)), randomPlates(r)
		if r.Intn(3) == 0 {
			l = l[:1+r.Intn(len(l))]
			for i := range l {
				l[i].N = r.Intn(3)
			}
		}
		needs(t, s, l, wantLeast(s, l))
	}
}

func TestP7_5Kinds(t *testing.T) {
	kinds, e := compose.Kinds(list(plate(1, 1, 0, 0), plate(2, 3, 9, 5)))
	wantErr(t, "kinds", e, api.OK)
	if len(kinds) != 2 {
		t.Fatal(kinds)
	}
	same(t, "one cell", kinds[0].Cells, list(cell(0, 0, 0)))
	same(t, "one cell", kinds[0].Knobs, list(api.Knob{Dir: 4, Sort: 1}, api.Knob{Dir: 5, Sort: 2}))
	same(t, "six cells", kinds[1].Cells, list(cell(0, 0, 0), cell(1, 0, 0), cell(0, 1, 0), cell(1, 1, 0), cell(0, 2, 0), cell(1, 2, 0)))
	same(t, "weights", list(kinds[0].Weight, kinds[1].Weight), list(1, 6))
	same(t, "knobs", list(len(kinds[1].Knobs)), list(12))
	for i, k := range kinds[1].Knobs {
		same(t, i, list(k), list(api.Knob{At: kinds[1].Cells[i/2], Dir: uint8(4 + i%2), Sort: uint8(1 + i%2)}))
	}
}

// Kinds has a kind for each plate that may have one, and it is valid.
func TestP7_5AnyKinds(t *testing.T) {
	for w := 1; w <= 8; w++ {
		for d := w; d <= 8; d++ {
			kinds, e := compose.Kinds(list(plate(w, d, 1, 0)))
			if w*d > 24 {
				allFail(t, w, map[string]result{"Kinds": of(kinds, e)}, api.ErrArg)
				continue
			}
			wantErr(t, w, e, api.OK)
			wantErr(t, w, lattice.CheckKinds(kinds), api.OK)
			same(t, d, list(len(kinds[0].Cells), len(kinds[0].Knobs), kinds[0].Weight), list(w*d, 2*w*d, w*d))
		}
	}
	// A plate is too large also if there are none of it; but the list is checked first.
	for _, x := range []struct {
		l    []api.Plate
		want api.Errno
	}{
		{append(few(9, 9), plate(5, 5, 0, 0)), api.ErrArg},
		{list(plate(3, 8, 1, 0), plate(4, 7, 0, 3)), api.ErrArg},
		{list(plate(5, 5, 1, 0), plate(1, 1, 1, 0)), api.ErrPlate},
		{list(plate(5, 5, 1, 0), plate(5, 5, 1, 0)), api.ErrPlate},
	} {
		kinds, e := compose.Kinds(x.l)
		allFail(t, x.l, map[string]result{"Kinds": of(kinds, e)}, x.want)
	}
}
