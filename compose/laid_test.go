package compose_test

import (
	"math/rand"
	"slices"
	"testing"

	"studwork/api"
	"studwork/compose"
	"studwork/lattice"
)

// colored is a shape of two layers in two colours, with a hole in the lower one, and plates for it.
func colored() (api.Shape, []api.Plate) {
	s := shape(3, 2, 2,
		1, 1, 2,
		1, 1, 0,
		1, 2, 2,
		1, 1, 1)
	return s, list(plate(1, 1, 9, 0), plate(1, 2, 9, 1), plate(1, 2, 1, 2), plate(1, 3, 9, 0), plate(2, 2, 1, 1))
}

// covering is a composition of it.
func covering() []api.Laid {
	return list(laid(4, 0, 0, 0), laid(0, 2, 0, 0), laid(1, 0, 0, 1), turned(2, 1, 0, 1), turned(1, 1, 1, 1))
}

func TestP7_1Check(t *testing.T) {
	wantErr(t, "singles", compose.Check(first(), few(4, 0), singles()), api.OK)
	wantErr(t, "doubles", compose.Check(first(), few(0, 2), doubles()), api.OK)
	wantErr(t, "both", compose.Check(first(), few(2, 1), list(turned(1, 0, 0, 0), laid(0, 0, 0, 1), laid(0, 1, 0, 1))), api.OK)
	s, l := colored()
	wantErr(t, "colours", compose.Check(s, l, covering()), api.OK)
	wantErr(t, "along y", compose.Check(filled(1, 2, 1, 4), few(0, 1), list(laid(1, 0, 0, 0))), api.OK)
	wantErr(t, "far corner", compose.Check(shape(8, 8, 4, slices.Concat(make([]uint8, 255), list[uint8](15))...), few(1, 0), list(laid(0, 7, 7, 3))), api.OK)
}

func TestP7_1NoComposition(t *testing.T) {
	for _, c := range [][]api.Laid{
		nil,
		singles()[:3],
		singles()[1:],
		append(singles(), laid(0, 1, 0, 1)),
		append(doubles(), turned(1, 0, 0, 1)),
		list(singles()[1], singles()[0], singles()[2], singles()[3]),
		list(singles()[2], singles()[3], singles()[0], singles()[1]),
		list(turned(1, 0, 0, 1), turned(1, 0, 0, 0)),
		list(laid(0, 0, 0, 0), laid(0, 0, 0, 0), laid(0, 0, 0, 1), laid(0, 1, 0, 1)),
		list(laid(0, 0, 0, 0), turned(1, 0, 0, 0), turned(1, 0, 0, 1)),
		list(turned(1, 0, 0, 0), laid(0, 1, 0, 0), turned(1, 0, 0, 1)),
		list(laid(1, 0, 0, 0), laid(1, 0, 0, 1)),
		list(laid(0, 0, 0, 0), turned(1, 1, 0, 0), turned(1, 0, 0, 1)),
		list(turned(0, 0, 0, 0), laid(0, 1, 0, 0), turned(1, 0, 0, 1)),
		append(doubles(), laid(0, 2, 0, 1)),
		append(doubles(), laid(0, 0, 0, 2)),
		append(doubles(), laid(0, 0, 1, 1)),
		append(list(laid(0, -1, 0, 0)), doubles()...),
		append(list(laid(0, 0, 0, -1)), doubles()...),
		list(turned(2, 0, 0, 0), turned(1, 0, 0, 1)),
		list(turned(-1, 0, 0, 0), turned(1, 0, 0, 1)),
		slices.Repeat(doubles(), 1<<18),
	} {
		allFail(t, c[:min(len(c), 5)], call{s: first(), l: few(9, 9), c: c}.ofOne(), api.ErrBad)
	}
	// More plates than there are.
	allFail(t, "three", call{s: first(), l: few(3, 9), c: singles()}.ofOne(), api.ErrBad)
	allFail(t, "one", call{s: first(), l: few(9, 1), c: doubles()}.ofOne(), api.ErrBad)
	allFail(t, "none", call{s: first(), l: few(9, 0), c: doubles()}.ofOne(), api.ErrBad)
	for _, n := range extremes {
		for _, x := range []api.Laid{{Plate: n}, {At: cell(n, 0, 0)}, {At: cell(0, n, 0)}, {At: cell(0, 0, n)}, {Plate: 1, At: cell(n, n, n), Turned: true}} {
			allFail(t, n, call{s: filled(1, 1, 1, 1), l: few(9, 9), c: list(x)}.ofOne(), api.ErrBad)
		}
	}
}

func TestP7_1Colors(t *testing.T) {
	s, l := colored()
	for i, c := range [][]api.Laid{
		// Twice a plate of another colour, twice cells of two colours, and a cell that is not full.
		{laid(4, 0, 0, 0), laid(0, 2, 0, 0), laid(2, 0, 0, 1), turned(2, 1, 0, 1), turned(1, 1, 1, 1)},
		{laid(4, 0, 0, 0), laid(0, 2, 0, 0), laid(1, 0, 0, 1), turned(1, 1, 0, 1), turned(1, 1, 1, 1)},
		{laid(4, 0, 0, 0), laid(0, 2, 0, 0), turned(3, 0, 0, 1), turned(3, 0, 1, 1)},
		{laid(4, 0, 0, 0), laid(0, 2, 0, 0), turned(1, 0, 0, 1), laid(0, 2, 0, 1), turned(3, 0, 1, 1)},
		{laid(1, 0, 0, 0), laid(1, 1, 0, 0), laid(2, 2, 0, 0), laid(1, 0, 0, 1), turned(2, 1, 0, 1), turned(1, 1, 1, 1)},
	} {
		allFail(t, i, call{s: s, l: l, c: c}.ofOne(), api.ErrBad)
	}
	// Plates of any colour lie in one colour only, too.
	allFail(t, "two colours", call{s: shape(2, 1, 1, 1, 2), l: few(9, 9), c: list(turned(1, 0, 0, 0))}.ofOne(), api.ErrBad)
	wantErr(t, "two plates", compose.Check(shape(2, 1, 1, 1, 2), few(9, 9), singles()[:2]), api.OK)
}

func TestP7_2Hangs(t *testing.T) {
	s, l := colored()
	bridge := shape(3, 1, 2, 5, 0, 5, 5, 5, 5)
	bars := list(plate(1, 1, 9, 0), plate(1, 3, 9, 0))
	for _, x := range []struct {
		s    api.Shape
		l    []api.Plate
		c    []api.Laid
		want bool
	}{
		{first(), few(9, 9), singles(), false},
		{first(), few(9, 9), doubles(), true},
		{first(), few(9, 9), list(laid(0, 0, 0, 0), laid(0, 1, 0, 0), turned(1, 0, 0, 1)), true},
		{filled(1, 1, 1, 1), few(9, 9), singles()[:1], true},
		{filled(2, 1, 1, 1), few(9, 9), doubles()[:1], true},
		// Side by side is not enough, nor is a corner, nor one above the other with a gap between them.
		{filled(2, 1, 1, 1), few(9, 9), singles()[:2], false},
		{shape(2, 1, 2, 1, 0, 0, 1), few(9, 9), list(laid(0, 0, 0, 0), laid(0, 1, 0, 1)), false},
		{shape(1, 1, 3, 1, 0, 1), few(9, 9), list(laid(0, 0, 0, 0), laid(0, 0, 0, 2)), false},
		{filled(1, 1, 3, 1), few(9, 9), list(laid(0, 0, 0, 0), laid(0, 0, 0, 1), laid(0, 0, 0, 2)), true},
		// Over a bridge, and down again.
		{bridge, bars, list(laid(0, 0, 0, 0), laid(0, 2, 0, 0), turned(1, 0, 0, 1)), true},
		{bridge, bars, list(laid(0, 0, 0, 0), laid(0, 2, 0, 0), laid(0, 0, 0, 1), laid(0, 1, 0, 1), laid(0, 2, 0, 1)), false},
		// Colours do not matter here; the cell in the colour 2 is under the plate in the colour 2.
		{s, l, covering(), true},
	} {
		is, e := compose.Hangs(x.s, x.l, x.c)
		wantErr(t, x.c, e, api.OK)
		if is != x.want {
			t.Error(x.s, x.c, is)
		}
	}
}

func TestP7_2Weak(t *testing.T) {
	block := filled(2, 2, 2, 1)
	var ones []api.Laid
	for i := range 8 {
		ones = append(ones, laid(0, i%2, i/2%2, i/4))
	}
	s, l := colored()
	for _, x := range []struct {
		s    api.Shape
		l    []api.Plate
		c    []api.Laid
		want int
	}{
		{first(), few(9, 9), singles(), 1},
		{first(), few(9, 9), doubles(), 0},
		{first(), few(9, 9), list(laid(0, 0, 0, 0), laid(0, 1, 0, 0), turned(1, 0, 0, 1)), 0},
		{first(), few(9, 9), list(turned(1, 0, 0, 0), laid(0, 0, 0, 1), laid(0, 1, 0, 1)), 0},
		// Four seams on four; along x on along x, and along y on along x.
		{block, few(9, 9), ones, 4},
		{block, few(9, 9), list(turned(1, 0, 0, 0), turned(1, 0, 1, 0), turned(1, 0, 0, 1), turned(1, 0, 1, 1)), 2},
		{block, few(9, 9), list(turned(1, 0, 0, 0), turned(1, 0, 1, 0), laid(1, 0, 0, 1), laid(1, 1, 0, 1)), 0},
		{block, few(9, 9), list(laid(1, 0, 0, 0), laid(1, 1, 0, 0), laid(1, 0, 0, 1), laid(1, 1, 0, 1)), 2},
		// Just above only: not with a layer between them, and of three layers twice.
		{filled(2, 1, 3, 1), few(9, 9), list(laid(0, 0, 0, 0), laid(0, 1, 0, 0), turned(1, 0, 0, 1), laid(0, 0, 0, 2), laid(0, 1, 0, 2)), 0},
		{filled(2, 1, 3, 1), few(9, 9), append(singles(), laid(0, 0, 0, 2), laid(0, 1, 0, 2)), 2},
		{shape(2, 1, 3, 1, 1, 0, 0, 1, 1), few(9, 9), list(laid(0, 0, 0, 0), laid(0, 1, 0, 0), laid(0, 0, 0, 2), laid(0, 1, 0, 2)), 0},
		// The end of a row is no seam.
		{shape(2, 2, 2, 1, 0, 1, 1, 1, 0, 1, 1), few(9, 9), list(laid(1, 0, 0, 0), laid(0, 1, 1, 0), laid(1, 0, 0, 1), laid(0, 1, 1, 1)), 1},
		{shape(3, 1, 2, 1, 1, 0, 0, 1, 1), few(9, 9), list(laid(0, 0, 0, 0), laid(0, 1, 0, 0), laid(0, 1, 0, 1), laid(0, 2, 0, 1)), 0},
		// The only seam below is under one plate.
		{s, l, covering(), 0},
	} {
		n, e := compose.Weak(x.s, x.l, x.c)
		wantErr(t, x.c, e, api.OK)
		if n != x.want || n != wantWeak(x.s, x.l, x.c) {
			t.Error(x.s, x.c, n, x.want)
		}
	}
}

// changed returns a list that is about like a composition.
func changed(r *rand.Rand, c []api.Laid) []api.Laid {
	c = slices.Clone(c)
	i, j := r.Intn(len(c)), r.Intn(len(c))
	switch r.Intn(8) {
	case 0:
		c[i], c[j] = c[j], c[i]
	case 1:
		c[i].Turned = !c[i].Turned
	case 2:
		c[i].Plate += r.Intn(5) - 2
	case 3:
		c[i].At.X += r.Intn(3) - 1
	case 4:
		c[i].At.Y += r.Intn(3) - 1
	case 5:
		c[i].At.Z += r.Intn(3) - 1
	case 6:
		c = slices.Delete(c, i, i+1)
	default:
		c = slices.Insert(c, i, c[j])
	}
	return c
}

func TestP7_1AnyComposition(t *testing.T) {
	r := rand.New(rand.NewSource(5))
	good, bad := 0, 0
	for range 400 {
		s, l := randomShape(r, 6), randomPlates(r)
		for _, c := range someOf(r, wantAll(s, l), 10) {
			wantErr(t, c, compose.Check(s, l, c), api.OK)
			for range 5 {
				other := changed(r, c)
				if wantComposition(s, l, other) {
					wantErr(t, other, compose.Check(s, l, other), api.OK)
					good++
				} else {
					wantErr(t, other, compose.Check(s, l, other), api.ErrBad)
					bad++
				}
			}
		}
	}
	if good < 500 || bad < 2000 {
		t.Error(good, bad)
	}
}

// someOf returns up to so many of a list.
func someOf[T any](r *rand.Rand, l []T, most int) []T {
	l = slices.Clone(l)
	r.Shuffle(len(l), func(i, j int) { l[i], l[j] = l[j], l[i] })
	return l[:min(len(l), most)]
}

func TestP7_2AnyComposition(t *testing.T) {
	r := rand.New(rand.NewSource(6))
	together, weak := 0, 0
	for range 400 {
		s, l := randomShape(r, 8), randomPlates(r)
		for _, c := range someOf(r, wantAll(s, l), 10) {
			is, e := compose.Hangs(s, l, c)
			wantErr(t, c, e, api.OK)
			n, e := compose.Weak(s, l, c)
			wantErr(t, c, e, api.OK)
			if is != wantHangs(l, c) || n != wantWeak(s, l, c) {
				t.Error(s, l, c, is, n)
			}
			if is {
				together++
			}
			weak += n
		}
	}
	if together < 200 || weak < 200 {
		t.Error(together, weak)
	}
}

func TestP7_5Model(t *testing.T) {
	s, l := colored()
	brick := func(kind, x, y, z int, turn, color uint8) api.Brick {
		return api.Brick{Kind: kind, At: cell(x, y, z), Turn: turn, Color: color}
	}
	for _, x := range []struct {
		s    api.Shape
		l    []api.Plate
		c    []api.Laid
		want []api.Brick
	}{
		{first(), few(9, 9), singles(), list(brick(0, 0, 0, 0, 0, 3), brick(0, 1, 0, 0, 0, 3), brick(0, 0, 0, 1, 0, 3), brick(0, 1, 0, 1, 0, 3))},
		{first(), few(9, 9), doubles(), list(brick(1, 1, 0, 0, 1, 3), brick(1, 1, 0, 1, 1, 3))},
		{s, l, covering(), list(brick(4, 0, 0, 0, 0, 1), brick(0, 2, 0, 0, 0, 2), brick(1, 0, 0, 1, 0, 1), brick(2, 2, 0, 1, 1, 2), brick(1, 2, 1, 1, 1, 1))},
		{filled(8, 1, 1, 9), list(plate(1, 8, 1, 0)), list(turned(0, 0, 0, 0)), list(brick(0, 7, 0, 0, 1, 9))},
		{filled(3, 2, 1, 15), list(plate(2, 3, 1, 15)), list(turned(0, 0, 0, 0)), list(brick(0, 2, 0, 0, 1, 15))},
		// A model has no kinds that could be too large.
		{filled(1, 1, 1, 1), list(plate(1, 1, 1, 0), plate(8, 8, 1, 0)), singles()[:1], list(brick(0, 0, 0, 0, 0, 1))},
	} {
		m, e := compose.Model(x.s, x.l, x.c)
		wantErr(t, x.c, e, api.OK)
		same(t, x.c, m.Bricks, x.want)
	}
}

// modelFits checks what P7.7 says about the model of a composition.
func modelFits(t *testing.T, s api.Shape, l []api.Plate, c []api.Laid) {
	t.Helper()
	kinds, e := compose.Kinds(l)
	wantErr(t, l, e, api.OK)
	m, e := compose.Model(s, l, c)
	wantErr(t, c, e, api.OK)
	wantErr(t, c, lattice.Check(kinds, m), api.OK)
	groups, _ := lattice.Groups(kinds, m)
	whole := !slices.ContainsFunc(groups, func(g int) bool { return g != 0 })
	if is, _ := compose.Hangs(s, l, c); is != whole {
		t.Error(s, c, is, groups)
	}
	got := shape(s.W, s.D, s.H, make([]uint8, len(s.Cells))...)
	for i, b := range m.Bricks {
		cells, _ := lattice.Cells(kinds, b)
		for _, at := range cells {
			if colorAt(s, at) == 0 {
				t.Fatal(s, c, at)
			}
			got.Cells[index(s, at)] = b.Color
		}
		same(t, c, list(b.Kind), list(c[i].Plate))
	}
	same(t, c, got.Cells, s.Cells)
}

func TestP7_7Model(t *testing.T) {
	modelFits(t, first(), few(9, 9), singles())
	modelFits(t, first(), few(9, 9), doubles())
	s, l := colored()
	modelFits(t, s, l, covering())
	r := rand.New(rand.NewSource(7))
	for range 300 {
		s, l := randomShape(r, 8), randomPlates(r)
		for _, c := range someOf(r, wantAll(s, l), 10) {
			modelFits(t, s, l, c)
		}
		if c, e := compose.Compose(s, l); e == api.OK {
			modelFits(t, s, l, c)
		}
	}
}
