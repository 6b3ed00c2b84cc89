package compose_test

import (
	"math/rand"
	"slices"
	"testing"

	"studwork/api"
	"studwork/compose"
)

// rectangles are plates of all small sizes.
func rectangles() []api.Plate {
	return list(plate(1, 1, 99, 0), plate(1, 2, 99, 0), plate(1, 3, 99, 0), plate(1, 4, 99, 0), plate(2, 2, 99, 0), plate(2, 3, 99, 0), plate(2, 4, 99, 0), plate(3, 3, 99, 0))
}

func counts(t *testing.T, s api.Shape, l []api.Plate, want int) {
	t.Helper()
	n, e := compose.Count(s, l)
	wantErr(t, l, e, api.OK)
	if n != want {
		t.Error(s, l, n, want)
	}
}

func TestP7_2Count(t *testing.T) {
	counts(t, first(), few(9, 9), 4)
	counts(t, first(), few(9, 1), 3)
	counts(t, first(), few(9, 0), 1)
	counts(t, first(), few(3, 0), 0)
	counts(t, first(), few(0, 2), 1)
	counts(t, first(), few(1, 9), 1)
	counts(t, shape(2, 1, 1, 1, 2), few(9, 9), 1)
	counts(t, shape(2, 1, 1, 1, 2), few(0, 9), 0)
	counts(t, shape(3, 1, 1, 1, 0, 2), few(9, 9), 1)
	// Dominoes; squares and dominoes; all rectangles.
	counts(t, filled(2, 8, 1, 1), few(0, 99), 34)
	counts(t, filled(4, 4, 1, 1), few(0, 99), 36)
	counts(t, filled(4, 4, 1, 1), few(99, 99), 10012)
	counts(t, filled(2, 2, 1, 1), rectangles(), 8)
	counts(t, filled(2, 3, 1, 1), rectangles(), 34)
	counts(t, filled(4, 2, 1, 1), rectangles(), 148)
	counts(t, filled(3, 3, 1, 1), rectangles(), 322)
	counts(t, filled(2, 2, 4, 1), rectangles(), 8*8*8*8)
	counts(t, filled(2, 4, 2, 1), rectangles(), 148*148)
	// A plate in each colour: the cells say which one.
	counts(t, shape(2, 2, 1, 1, 1, 2, 2), list(plate(1, 1, 9, 0), plate(1, 2, 9, 1), plate(1, 2, 9, 2)), 4)
	counts(t, shape(2, 2, 1, 1, 1, 2, 2), list(plate(1, 1, 9, 0), plate(1, 2, 9, 1), plate(1, 2, 9, 3)), 2)
	counts(t, shape(2, 2, 1, 1, 2, 1, 2), list(plate(1, 1, 9, 0), plate(1, 2, 9, 1)), 2)
}

func TestP7_2AnyCount(t *testing.T) {
	r := rand.New(rand.NewSource(8))
	for range 500 {
		s, l := randomShape(r, 8), randomPlates(r)
		counts(t, s, l, len(wantAll(s, l)))
	}
}

func composes(t *testing.T, s api.Shape, l []api.Plate, want ...api.Laid) {
	t.Helper()
	c, e := compose.Compose(s, l)
	wanted := api.OK
	if len(want) == 0 {
		wanted = api.ErrNone
	}
	wantErr(t, s, e, wanted)
	same(t, s, c, want)
}

func TestP7_3Compose(t *testing.T) {
	composes(t, first(), few(9, 9), doubles()...)
	composes(t, first(), few(9, 1), laid(0, 0, 0, 0), laid(0, 1, 0, 0), turned(1, 0, 0, 1))
	composes(t, first(), few(9, 0))
	composes(t, first(), few(1, 1))
	composes(t, shape(2, 1, 1, 1, 2), few(9, 9))
	composes(t, filled(1, 1, 1, 7), few(1, 0), laid(0, 0, 0, 0))
	composes(t, filled(1, 1, 1, 7), few(0, 9))
	composes(t, filled(2, 1, 1, 7), few(9, 9), turned(1, 0, 0, 0))
	composes(t, filled(1, 2, 1, 7), few(9, 9), laid(1, 0, 0, 0))
	composes(t, filled(2, 1, 1, 7), few(9, 0))
	// Two cells with nothing between them never hang together.
	composes(t, shape(3, 1, 1, 1, 0, 1), few(9, 9))
	composes(t, shape(1, 1, 3, 1, 0, 1), few(9, 9))
	composes(t, filled(1, 1, 4, 1), few(9, 9), laid(0, 0, 0, 0), laid(0, 0, 0, 1), laid(0, 0, 0, 2), laid(0, 0, 0, 3))
}

func TestP7_3Order(t *testing.T) {
	// Seams are not stacked, if as many plates can do without that.
	composes(t, filled(3, 1, 2, 1), few(9, 9), laid(0, 0, 0, 0), turned(1, 1, 0, 0), turned(1, 0, 0, 1), laid(0, 2, 0, 1))
	composes(t, filled(2, 2, 2, 1), few(9, 9), laid(1, 0, 0, 0), laid(1, 1, 0, 0), turned(1, 0, 0, 1), turned(1, 0, 1, 1))
	composes(t, filled(4, 2, 2, 1), list(plate(1, 1, 9, 0), plate(1, 2, 9, 0), plate(2, 2, 9, 0)), laid(1, 0, 0, 0), laid(2, 1, 0, 0), laid(1, 3, 0, 0), laid(2, 0, 0, 1), laid(2, 2, 0, 1))
	// But few plates are better than no stacked seams: six could do without, of two squares and four single cells. Four that do not hang together are no better.
	composes(t, filled(3, 2, 2, 1), list(plate(1, 1, 9, 0), plate(1, 3, 9, 0), plate(2, 2, 9, 0)), laid(0, 0, 0, 0), laid(2, 1, 0, 0), laid(0, 0, 1, 0), turned(1, 0, 0, 1), turned(1, 0, 1, 1))
	// A plate with a lesser index first; and one that is not turned.
	composes(t, filled(2, 2, 2, 1), list(plate(1, 2, 9, 0), plate(2, 2, 1, 0)), laid(0, 0, 0, 0), laid(0, 1, 0, 0), laid(1, 0, 0, 1))
	composes(t, filled(2, 2, 1, 1), list(plate(1, 1, 9, 0), plate(1, 2, 9, 0), plate(2, 2, 1, 0)), laid(2, 0, 0, 0))
}

// Random shapes whose compositions all are tried: the best one is returned, or there is none.
func TestP7_6Best(t *testing.T) {
	r := rand.New(rand.NewSource(9))
	none, loose, weaker, ties, stacked := 0, 0, 0, 0, 0
	for i := range 1500 {
		s, l := randomShape(r, 9), randomPlates(r)
		if i%2 == 0 {
			s = randomTower(r)
		}
		switch i % 50 {
		case 10:
			s, l = filled(3, 2, 2, 3), list(plate(1, 1, 9+r.Intn(9), 0), plate(1, 3, r.Intn(9), 0), plate(2, 2, r.Intn(9), 0))
		case 20:
			s, l = filled(4, 1, 3, 3), list(plate(1, 1, 9, 0), plate(1, 2, 1+r.Intn(9), 0), plate(1, 3, r.Intn(2), 0))
			s.Cells[3*r.Intn(4)] = 0
		}
		all := wantAll(s, l)
		best := wantBest(s, l, all)
		composes(t, s, l, best...)
		if best == nil {
			none++
			continue
		}
		if least, e := compose.Least(s, l); e != api.OK || len(best) < least {
			t.Error(s, l, least, e)
		}
		weak := wantWeak(s, l, best)
		stacked += weak
		for _, c := range all {
			switch d := wantWeak(s, l, c) - weak; {
			case len(c) < len(best):
				loose++
			case !wantHangs(l, c):
			case len(c) > len(best) && d < 0:
				weaker++
			case len(c) == len(best) && d > 0 && compareLaid(c, best) < 0:
				ties++
			}
		}
	}
	if none < 100 || loose < 20 || weaker < 20 || ties < 20 || stacked < 20 {
		t.Error(none, loose, weaker, ties, stacked)
	}
}

// The greatest shapes, for which not all is tried here: what is returned is at least a composition that hangs together.
func TestP7_6Large(t *testing.T) {
	for _, s := range []api.Shape{filled(4, 2, 2, 1), filled(2, 4, 2, 1), filled(2, 2, 4, 1), filled(1, 4, 4, 1), filled(8, 1, 2, 1)} {
		for n := 1; n <= 8; n++ {
			l := rectangles()[:n]
			c, e := compose.Compose(s, l)
			if n == 1 {
				wantErr(t, s, e, api.ErrNone)
				continue
			}
			wantErr(t, s, e, api.OK)
			if !wantComposition(s, l, c) || !wantHangs(l, c) {
				t.Error(s, l, c)
			}
		}
	}
	composes(t, filled(4, 4, 1, 1), rectangles())
	composes(t, filled(4, 4, 1, 1), append(rectangles()[1:], plate(4, 4, 1, 0)), laid(7, 0, 0, 0))
}

// With one plate more there are not fewer compositions, and the first one is not later.
func TestP7_8More(t *testing.T) {
	r := rand.New(rand.NewSource(10))
	for range 300 {
		s, l := randomShape(r, 12), randomPlates(r)
		n, _ := compose.Count(s, l)
		c, e := compose.Compose(s, l)
		for i := range l {
			more := slices.Clone(l)
			if more[i].N++; more[i].N > 99 {
				continue
			}
			m, _ := compose.Count(s, more)
			if m < n {
				t.Error(s, l, i, n, m)
			}
			d, e2 := compose.Compose(s, more)
			if e == api.OK && (e2 != api.OK || compareAll(s, more, d, c) > 0) {
				t.Error(s, l, i, c, d, e2)
			}
		}
	}
}

// A shape that is mirrored in x and y has as many compositions, and its best one has as many plates and stacked seams.
func TestP7_8Mirrored(t *testing.T) {
	r := rand.New(rand.NewSource(11))
	for range 300 {
		s, l := randomShape(r, 12), randomPlates(r)
		half := shape(s.W, s.D, s.H)
		for z := range s.H {
			layer := slices.Clone(s.Cells[z*s.W*s.D : (z+1)*s.W*s.D])
			slices.Reverse(layer)
			half.Cells = append(half.Cells, layer...)
		}
		n, _ := compose.Count(s, l)
		counts(t, half, l, n)
		c, e := compose.Compose(s, l)
		d, e2 := compose.Compose(half, l)
		wantErr(t, s, e2, e)
		if len(c) != len(d) || wantWeak(s, l, c) != wantWeak(half, l, d) {
			t.Error(s, l, c, d)
		}
	}
}
