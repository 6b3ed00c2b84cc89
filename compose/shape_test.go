package compose_test

import (
	"math/rand"
	"slices"
	"testing"

	"studwork/api"
	"studwork/compose"
)

func TestP7_1Shape(t *testing.T) {
	none := make([]uint8, 255)
	for _, s := range []api.Shape{
		first(),
		shape(1, 1, 1, 1),
		shape(1, 1, 1, 15),
		filled(4, 4, 1, 2),
		filled(8, 2, 1, 2),
		filled(2, 8, 1, 2),
		filled(2, 2, 4, 2),
		shape(8, 8, 4, slices.Concat(none, list[uint8](15))...),
		shape(2, 1, 1, 0, 1),
	} {
		wantErr(t, s, compose.CheckShape(s), api.OK)
	}
	for _, s := range []api.Shape{
		{},
		shape(1, 1, 1),
		shape(1, 1, 1, 0),
		shape(1, 1, 1, 16),
		shape(1, 1, 1, 255),
		shape(2, 1, 1, 1, 16),
		shape(1, 1, 1, 1, 1),
		shape(2, 1, 1, 1),
		shape(2, 2, 1, 1, 1),
		shape(2, 2, 2, 1, 1, 1, 1),
		shape(0, 1, 1),
		shape(1, 0, 1),
		shape(1, 1, 0),
		shape(-1, -1, 1, 1),
		shape(1, -1, -1, 1),
		filled(9, 1, 1, 1),
		filled(1, 9, 1, 1),
		filled(1, 1, 5, 1),
		filled(17, 1, 1, 1),
		shape(3, 6, 1, slices.Repeat([]uint8{1}, 18)...),
		shape(3, 6, 1, append(slices.Repeat([]uint8{1}, 17), 0)...),
		shape(3, 6, 1, append(slices.Repeat([]uint8{0}, 17), 16)...),
		shape(8, 8, 4, make([]uint8, 256)...),
	} {
		wantErr(t, s, compose.CheckShape(s), api.ErrShape)
		allFail(t, s, call{s: s, l: few(9, 9), c: singles()}.ofShape(), api.ErrShape)
	}
}

func TestP7_1AnyShape(t *testing.T) {
	r := rand.New(rand.NewSource(1))
	valid := 0
	for range 20000 {
		s := shape(r.Intn(10), r.Intn(10), r.Intn(6))
		s.Cells = make([]uint8, max(0, s.W*s.D*s.H-r.Intn(30)/29))
		for range r.Intn(20) {
			if len(s.Cells) > 0 {
				s.Cells[r.Intn(len(s.Cells))] = uint8(r.Intn(15) + r.Intn(20)/19*2)
			}
		}
		want := api.ErrShape
		if wantShape(s) {
			want = api.OK
			valid++
		}
		wantErr(t, s, compose.CheckShape(s), want)
	}
	if valid < 2000 {
		t.Error(valid)
	}
}

var (
	white = api.Hue{R: 255, G: 255, B: 255}
	black = api.Hue{}
	grey  = api.Hue{R: 200, G: 200, B: 200}
)

func paints(t *testing.T, pixels, palette []api.Hue, want api.Shape) {
	t.Helper()
	s, e := compose.Paint(pixels, palette, want.W)
	wantErr(t, pixels, e, api.OK)
	if s.W != want.W || s.D != want.D || s.H != want.H {
		t.Error(pixels, s, want)
	}
	same(t, pixels, s.Cells, want.Cells)
	wantErr(t, s, compose.CheckShape(s), api.OK)
}

func TestP7_4Paint(t *testing.T) {
	paints(t, list(black, white, grey), list(white, black), shape(3, 1, 1, 2, 1, 1))
	paints(t, list(black, white, grey), list(white, black), shape(1, 3, 1, 2, 1, 1))
	paints(t, list(black, white, grey, grey, black, black), list(black, white, grey), shape(2, 3, 1, 1, 2, 3, 3, 1, 1))
	paints(t, list(black), list(white), shape(1, 1, 1, 1))
	// Of several hues that are as near the first one: the same one twice, and one on each side.
	paints(t, list(grey, black), list(white, grey, grey, black, black), shape(2, 1, 1, 2, 4))
	paints(t, list(grey), list(api.Hue{R: 201, G: 200, B: 200}, api.Hue{R: 199, G: 200, B: 200}, api.Hue{R: 200, G: 200, B: 201}), shape(1, 1, 1, 1))
	// Each of R, G and B counts, in squares: 9 + 9 + 9 is more than 25, and less than 36.
	far := list(api.Hue{R: 3, G: 3, B: 3})
	for _, h := range []api.Hue{{R: 5}, {G: 5}, {B: 5}} {
		paints(t, list(black), append(far, h), shape(1, 1, 1, 2))
	}
	for _, h := range []api.Hue{{R: 6}, {G: 6}, {B: 6}} {
		paints(t, list(black), append(far, h), shape(1, 1, 1, 1))
	}
	// The greatest ones.
	all := slices.Repeat(list(black), 14)
	paints(t, slices.Repeat(list(white), 16), append(all, white), shape(2, 8, 1, slices.Repeat([]uint8{15}, 16)...))
	paints(t, slices.Repeat(list(white), 16), append(all, white), shape(8, 2, 1, slices.Repeat([]uint8{15}, 16)...))
}

func TestP7_4NoPicture(t *testing.T) {
	pixels := func(n int) []api.Hue { return slices.Repeat(list(grey), n) }
	for _, x := range []struct{ pixels, palette, w int }{
		{1, 1, 0}, {1, 1, -1}, {0, 1, 1}, {9, 1, 9}, {16, 1, 16}, {0, 1, 0},
		{3, 1, 2}, {1, 1, 2}, {5, 1, 3}, {9, 1, 1}, {16, 1, 1}, {10, 1, 1},
		{17, 1, 1}, {18, 1, 3}, {18, 1, 6}, {24, 1, 8}, {1 << 20, 1, 8},
		{1, 0, 1}, {1, 16, 1}, {4, 1 << 20, 2},
	} {
		s, e := compose.Paint(pixels(x.pixels), pixels(x.palette), x.w)
		if e != api.ErrArg || !isZero(s) {
			t.Error(x, s, e)
		}
	}
	for _, w := range extremes {
		s, e := compose.Paint(pixels(9), pixels(1), w)
		if e != api.ErrArg || !isZero(s) {
			t.Error(w, s, e)
		}
	}
}

func TestP7_4AnyPicture(t *testing.T) {
	r := rand.New(rand.NewSource(2))
	hues := func(n int) []api.Hue {
		var l []api.Hue
		steps := 1 + r.Intn(255)
		for range n {
			l = append(l, api.Hue{R: uint8(r.Intn(256) / steps * steps), G: uint8(r.Intn(256) / steps * steps), B: uint8(r.Intn(256) / steps * steps)})
		}
		return l
	}
	for range 2000 {
		w, d := 1+r.Intn(8), 1+r.Intn(2)
		want := shape(w, d, 1)
		pixels, palette := hues(w*d), hues(1+r.Intn(15))
		for _, p := range pixels {
			var far []int
			for _, q := range palette {
				x, y, z := int(p.R)-int(q.R), int(p.G)-int(q.G), int(p.B)-int(q.B)
				far = append(far, x*x+y*y+z*z)
			}
			want.Cells = append(want.Cells, uint8(1+slices.Index(far, slices.Min(far))))
		}
		paints(t, pixels, palette, want)
	}
}
