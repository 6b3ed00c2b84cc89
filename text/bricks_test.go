package text_test

import (
	"math/rand"
	"testing"

	"studwork/api"
	"studwork/lattice"
	"studwork/text"
)

func wantModel(t *testing.T, d api.Doc, want []api.Brick) {
	t.Helper()
	m, e := text.Flatten(d)
	if e != api.OK {
		t.Errorf("%v: got error %d", d, e)
	}
	same(t, d, m.Bricks, want)
}

func wantItems(t *testing.T, d api.Doc, want []api.Item) {
	t.Helper()
	l, e := text.Count(d)
	if e != api.OK {
		t.Errorf("%v: got error %d", d, e)
	}
	same(t, d, l, want)
}

func TestP2_3Example(t *testing.T) {
	wantModel(t, car(), []api.Brick{brick(2, 1, 0, 0, 1, 4), brick(3, 0, 2, 0, 0, 7), brick(2, 5, 1, 0, 2, 0), brick(3, 3, 0, 0, 1, 7)})
	wantItems(t, car(), []api.Item{{Kind: 2, Color: 0, N: 1}, {Kind: 2, Color: 4, N: 1}, {Kind: 3, Color: 7, N: 2}})
}

// A brick is turned by its own turn first, then by the use's: X after Z is 5, Z after X is 16.
func TestP2_3TurnsInOrder(t *testing.T) {
	wantModel(t, doc(sub("a", use(1, 10, 20, 30, 4, 0)), sub("b", line(6, 1, 2, 3, 1, 9))), []api.Brick{brick(6, 11, 17, 32, 5, 9)})
	wantModel(t, doc(sub("a", use(1, 10, 20, 30, 1, 0)), sub("b", line(6, 1, 2, 3, 4, 9))), []api.Brick{brick(6, 8, 21, 33, 16, 9)})
}

// The innermost colour that is not 0 counts.
func TestP2_3Colours(t *testing.T) {
	leaf := sub("c", line(1, 0, 0, 0, 0, 0), line(1, 0, 0, 0, 0, 3))
	for _, x := range [][4]uint8{{0, 0, 0, 3}, {5, 0, 5, 3}, {0, 6, 6, 3}, {5, 6, 6, 3}, {15, 0, 15, 3}, {3, 0, 3, 3}} {
		d := doc(sub("a", use(1, 0, 0, 0, 0, x[0])), sub("b", use(2, 0, 0, 0, 0, x[1])), leaf)
		wantModel(t, d, []api.Brick{brick(1, 0, 0, 0, 0, x[2]), brick(1, 0, 0, 0, 0, x[3])})
		wantItems(t, d, wantCount(wantBricks(d, 0)))
	}
}

func TestP2_3OnlyTheMainOne(t *testing.T) {
	d := doc(sub("a"), sub("b", times(20, line(0, 0, 0, 0, 0, 0))...), sub("c", use(3, 1000, 0, 0, 0, 0)), sub("d", line(0, 1000, 0, 0, 0, 0)))
	wantModel(t, d, nil)
	wantItems(t, d, nil)
}

func TestP2_3Many(t *testing.T) {
	forty := doc(sub("a", use(1, 0, 0, 0, 0, 0), use(1, 0, 0, 0, 0, 0)), sub("b", times(20, line(3, 1, 1, 1, 1, 1))...))
	wantModel(t, forty, times(40, brick(3, 1, 1, 1, 1, 1)))
	more := copyDoc(forty)
	more.Subs[0].Lines = append(more.Subs[0].Lines, line(0, 0, 0, 0, 0, 0))
	m, e := text.Flatten(more)
	if e != api.ErrMany || m.Bricks != nil {
		t.Error(m, e)
	}
	// ErrMany comes before ErrBrick.
	more.Subs[0].Lines[0].Brick.At.X = 1000
	if _, e := text.Flatten(more); e != api.ErrMany {
		t.Error(e)
	}
	more.Subs[0].Lines = more.Subs[0].Lines[:2]
	if m, e := text.Flatten(more); e != api.ErrBrick || m.Bricks != nil {
		t.Error(m, e)
	}
	wantItems(t, more, []api.Item{{Kind: 3, Color: 1, N: 40}})
}

func TestP2_3Places(t *testing.T) {
	for _, x := range []struct {
		by api.Line
		e  api.Errno
	}{
		{use(1, 0, 0, 0, 0, 0), api.OK}, {use(1, -1000, 0, 0, 0, 0), api.OK}, {use(1, 1, 0, 0, 0, 0), api.ErrBrick},
		{use(1, 0, 1, 0, 0, 0), api.ErrBrick}, {use(1, 0, 0, -1, 0, 0), api.ErrBrick}, {use(1, 0, 0, 1, 0, 0), api.OK},
		// Turned by 1 it is at (-1000, 1000, -1000), by 2 at (-1000, -1000, -1000).
		{use(1, 1, 0, 0, 1, 0), api.OK}, {use(1, -1, 0, 0, 1, 0), api.ErrBrick}, {use(1, 0, 1, 0, 1, 0), api.ErrBrick},
		{use(1, 1, -1, 1, 2, 0), api.ErrBrick}, {use(1, 1, 1, 1, 2, 0), api.OK},
	} {
		d := doc(sub("a", x.by), sub("b", line(0, 1000, 1000, -1000, 0, 0)))
		if _, e := text.Flatten(d); e != x.e {
			t.Error(x, e)
		}
		if _, e := text.Count(d); e != api.OK {
			t.Error(x, e)
		}
	}
}

// Places on the way may be outside of the range, as far as seven uses lead, if those of the bricks are in it.
func TestP2_3FarAndBack(t *testing.T) {
	r := rand.New(rand.NewSource(11))
	for range 500 {
		var d api.Doc
		for i := range 8 {
			far := func() int { return 900 + r.Intn(101) }
			l := use(i+1, far(), far(), far(), uint8(r.Intn(24)), 0)
			if i == 7 {
				l = line(1, far(), far(), far(), uint8(r.Intn(24)), 0)
			}
			d.Subs = append(d.Subs, sub(string(rune('a'+i)), l))
		}
		m, e := text.Flatten(d)
		want, f := wantFlatten(d)
		wantErr(t, d, e, f)
		same(t, d, m.Bricks, want.Bricks)
	}
	// The three innermost uses lead to 4000; the fourth one turns this by a half, to -3000, and the others lead back to 0.
	d := chain(8, 1, line(1, 1000, 0, 0, 0, 0))
	for i := range 7 {
		d.Subs[i].Lines[0].Brick.At.X = 1000
	}
	d.Subs[3].Lines[0].Brick.Turn = 2
	wantModel(t, d, []api.Brick{brick(1, 0, 0, 0, 2, 0)})
	d.Subs[3].Lines[0].Brick.Turn = 0
	if _, e := text.Flatten(d); e != api.ErrBrick {
		t.Error(e)
	}
}

func TestP2_3AgainstTheWords(t *testing.T) {
	r := rand.New(rand.NewSource(12))
	found := map[api.Errno]int{}
	for range 3000 {
		d := randomDoc(r, 1+r.Intn(1000), 1+r.Intn(9))
		if len(wantCount(wantBricks(d, 0))) == 0 && r.Intn(4) > 0 {
			continue
		}
		m, e := text.Flatten(d)
		want, f := wantFlatten(d)
		found[f]++
		wantErr(t, d, e, f)
		same(t, d, m.Bricks, want.Bricks)
		wantItems(t, d, wantCount(wantBricks(d, 0)))
	}
	if found[api.OK] < 500 || found[api.ErrMany] < 50 || found[api.ErrBrick] < 50 {
		t.Error("too few of one sort:", found)
	}
}

// Count tells any number of bricks at once; so do the others with uses of nothing, as many.
func TestP2_3VeryMany(t *testing.T) {
	d := chain(8, 20, append(times(19, line(15, 1000, 0, 0, 0, 0)), line(0, 0, 0, 0, 0, 15))...)
	d.Subs[6].Lines[4].Brick.Color = 3
	all := 20 * 20 * 20 * 20 * 20 * 20
	wantItems(t, d, []api.Item{{Kind: 0, Color: 15, N: all * 20}, {Kind: 15, Color: 0, N: all * 19 * 19}, {Kind: 15, Color: 3, N: all * 19}})
	if _, e := text.Flatten(d); e != api.ErrMany {
		t.Error(e)
	}
	none := chain(8, 20)
	wantItems(t, none, nil)
	wantModel(t, none, nil)
	none.Subs[0].Lines[7] = line(1, 2, 3, 4, 5, 6)
	wantModel(t, none, []api.Brick{brick(1, 2, 3, 4, 5, 6)})
	if p, e := text.Prune(d); e != api.OK || !sameDocs(p, d) {
		t.Error(p, e)
	}
}

func TestP2_7WithoutUses(t *testing.T) {
	r := rand.New(rand.NewSource(13))
	for range 300 {
		d := randomDoc(r, 1000, 20)
		var own []api.Brick
		d.Subs = d.Subs[len(d.Subs)-1:]
		for _, l := range d.Subs[0].Lines {
			own = append(own, l.Brick)
		}
		wantModel(t, d, own)
	}
}

func TestP2_8CountOfFlatten(t *testing.T) {
	r := rand.New(rand.NewSource(14))
	for range 1000 {
		d := randomDoc(r, 30, 5)
		if m, e := text.Flatten(d); e == api.OK {
			wantItems(t, d, wantCount(m.Bricks))
		}
	}
}

// One use of a sub-model is the model of this one, moved by layer 1.
func TestP2_8MovedAsLayer1(t *testing.T) {
	l := times(16, api.Kind{Cells: []api.Cell{{}}, Weight: 1})
	r := rand.New(rand.NewSource(15))
	moved := 0
	for range 2000 {
		part := randomDoc(r, 200, 3)
		m, e := text.Flatten(part)
		if e != api.OK || lattice.Check(l, m) != api.OK || len(part.Subs) == 8 {
			continue
		}
		turn, by := uint8(r.Intn(24)), cell(r.Intn(2001)-1000, r.Intn(2001)-1000, r.Intn(2001)-1000)
		whole := doc(sub("whole", use(1, by.X, by.Y, by.Z, turn, 0)))
		for _, s := range part.Subs {
			for i := range s.Lines {
				if s.Lines[i].Sub >= 0 {
					s.Lines[i].Sub++
				}
			}
			whole.Subs = append(whole.Subs, s)
		}
		want, e := lattice.Move(l, m, int(turn), by)
		got, f := text.Flatten(whole)
		wantErr(t, whole, f, e)
		same(t, whole, got.Bricks, want.Bricks)
		if len(got.Bricks) > 0 {
			moved++
		}
	}
	if moved < 200 {
		t.Error("only", moved, "were moved")
	}
}
