package text_test

import (
	"fmt"
	"math"
	"math/rand"
	"reflect"
	"slices"
	"strings"
	"testing"

	"studwork/api"
	"studwork/text"
)

// The helpers here follow the words of the chapter as plainly as they can, and call no function of the program, so that tests can hold its results against theirs.

var extremes = []int{math.MinInt, math.MinInt + 1, math.MinInt32, -2001, -1001, 1001, 2001, math.MaxInt32, math.MaxInt - 1, math.MaxInt}

func cell(x, y, z int) api.Cell { return api.Cell{X: x, Y: y, Z: z} }

func brick(kind, x, y, z int, turn, color uint8) api.Brick {
	return api.Brick{Kind: kind, At: cell(x, y, z), Turn: turn, Color: color}
}

func line(kind, x, y, z int, turn, color uint8) api.Line {
	return api.Line{Sub: -1, Brick: brick(kind, x, y, z, turn, color)}
}

func use(sub, x, y, z int, turn, color uint8) api.Line {
	return api.Line{Sub: sub, Brick: brick(0, x, y, z, turn, color)}
}

func sub(name string, lines ...api.Line) api.Sub { return api.Sub{Name: name, Lines: lines} }

func doc(subs ...api.Sub) api.Doc { return api.Doc{Subs: subs} }

func times[T any](n int, v T) []T {
	var l []T
	for range n {
		l = append(l, v)
	}
	return l
}

const carText = `sub car
use axle 0 0 0 0 4
use axle 5 0 0 1 0
end
sub axle
brick 2 1 0 0 1 0
brick 3 0 2 0 0 7
end
`

// car is the document of the chapter's example.
func car() api.Doc {
	return doc(
		sub("car", use(1, 0, 0, 0, 0, 4), use(1, 5, 0, 0, 1, 0)),
		sub("axle", line(2, 1, 0, 0, 1, 0), line(3, 0, 2, 0, 0, 7)),
	)
}

// tree has uses of uses, a sub-model that only an unused one uses, and lines of all sorts between them.
func tree() api.Doc {
	return doc(
		sub("top", line(1, 1, 2, 3, 4, 5), use(3, 9, 8, 7, 6, 0), use(2, -1, -2, -3, 20, 2), line(0, 0, 0, 0, 0, 0)),
		sub("idle", use(4, 1, 1, 1, 1, 1), use(2, 0, 0, 0, 0, 0)),
		sub("mid", use(3, 10, 0, 0, 5, 0), line(4, 0, 0, 6, 23, 0), use(3, 0, 10, 0, 9, 8), use(5, 0, 0, 0, 0, 1)),
		sub("leaf", line(2, 1, 0, 0, 1, 0), line(2, 0, 1, 0, 0, 3)),
		sub("alone", line(7, 0, 0, 0, 0, 7)),
		sub("none"),
	)
}

// chain is n sub-models, each of which has all its lines as uses of the next one; the last one has the lines that are given.
func chain(n, uses int, lines ...api.Line) api.Doc {
	var d api.Doc
	for i := range n - 1 {
		d.Subs = append(d.Subs, sub(fmt.Sprint("s", i), times(uses, use(i+1, 0, 0, 0, 0, 0))...))
	}
	d.Subs = append(d.Subs, sub("last", lines...))
	return d
}

func copyDoc(d api.Doc) api.Doc {
	var r api.Doc
	for _, s := range d.Subs {
		r.Subs = append(r.Subs, api.Sub{Name: s.Name, Lines: slices.Clone(s.Lines)})
	}
	return r
}

// wantTurn turns a cell as the section Terms of layer 1 says.
func wantTurn(c api.Cell, n int) api.Cell {
	for range n % 4 {
		c = cell(-c.Y, c.X, c.Z)
	}
	for _, about := range []string{"", "x", "xx", "xxx", "xz", "xzzz"}[n/4] {
		if about == 'x' {
			c = cell(c.X, -c.Z, c.Y)
		} else {
			c = cell(-c.Y, c.X, c.Z)
		}
	}
	return c
}

func wantCompose(a, b uint8) uint8 {
	for n := range uint8(24) {
		if wantTurn(cell(1, 2, 3), int(n)) == wantTurn(wantTurn(cell(1, 2, 3), int(a)), int(b)) {
			return n
		}
	}
	panic("no turn")
}

// wantPlaced places a line, or a brick of any place, by a use.
func wantPlaced(b, by api.Brick) api.Brick {
	at := wantTurn(b.At, int(by.Turn))
	b.At = cell(at.X+by.At.X, at.Y+by.At.Y, at.Z+by.At.Z)
	b.Turn = wantCompose(b.Turn, by.Turn)
	if b.Color == 0 {
		b.Color = by.Color
	}
	return b
}

// wantBricks makes the bricks of each sub-model that is used, and then places them, from the inside outwards.
func wantBricks(d api.Doc, i int) []api.Brick {
	var all []api.Brick
	for _, l := range d.Subs[i].Lines {
		if l.Sub == -1 {
			all = append(all, l.Brick)
			continue
		}
		for _, b := range wantBricks(d, l.Sub) {
			all = append(all, wantPlaced(b, l.Brick))
		}
	}
	return all
}

func inRange(c api.Cell) bool {
	return max(c.X, c.Y, c.Z) <= 1000 && min(c.X, c.Y, c.Z) >= -1000
}

func wantFlatten(d api.Doc) (api.Model, api.Errno) {
	l := wantBricks(d, 0)
	if len(l) > 40 {
		return api.Model{}, api.ErrMany
	}
	for _, b := range l {
		if !inRange(b.At) {
			return api.Model{}, api.ErrBrick
		}
	}
	return api.Model{Bricks: l}, api.OK
}

func wantCount(l []api.Brick) []api.Item {
	var items []api.Item
	for kind := range 16 {
		for color := range uint8(16) {
			n := 0
			for _, b := range l {
				if b.Kind == kind && b.Color == color {
					n++
				}
			}
			if n > 0 {
				items = append(items, api.Item{Kind: kind, Color: color, N: n})
			}
		}
	}
	return items
}

func wantText(d api.Doc) string {
	var b strings.Builder
	for _, s := range d.Subs {
		fmt.Fprintf(&b, "sub %s\n", s.Name)
		for _, l := range s.Lines {
			x := l.Brick
			if l.Sub == -1 {
				fmt.Fprintf(&b, "brick %d %d %d %d %d %d\n", x.Kind, x.At.X, x.At.Y, x.At.Z, x.Turn, x.Color)
			} else {
				fmt.Fprintf(&b, "use %s %d %d %d %d %d\n", d.Subs[l.Sub].Name, x.At.X, x.At.Y, x.At.Z, x.Turn, x.Color)
			}
		}
		fmt.Fprintf(&b, "end\n")
	}
	return b.String()
}

// randomDoc returns a valid document with places up to a distance, and up to a number of lines in each sub-model.
func randomDoc(r *rand.Rand, far, most int) api.Doc {
	var d api.Doc
	n := 1 + r.Intn(8)
	at := func() int { return r.Intn(2*far+1) - far }
	for i := range n {
		s := sub(randomName(r) + string(rune('a'+i)))
		for range r.Intn(most + 1) {
			l := line(r.Intn(16), at(), at(), at(), uint8(r.Intn(24)), uint8(r.Intn(16)*r.Intn(2)))
			if i < n-1 && r.Intn(2) == 0 {
				l.Sub, l.Brick.Kind = i+1+r.Intn(n-1-i), 0
			}
			s.Lines = append(s.Lines, l)
		}
		d.Subs = append(d.Subs, s)
	}
	return d
}

// randomName returns a name that can have one more character.
func randomName(r *rand.Rand) string {
	name := string(rune('a' + r.Intn(26)))
	for range r.Intn(11) {
		name += string("az09-bcu"[r.Intn(8)])
	}
	return name
}

func wantErr(t *testing.T, what any, got, want api.Errno) {
	t.Helper()
	if got != want {
		t.Errorf("%v: got error %d, want %d", what, got, want)
	}
}

// same holds slices against each other; nil and empty ones are the same.
func same[T comparable](t *testing.T, what any, got, want []T) {
	t.Helper()
	if !slices.Equal(got, want) {
		t.Errorf("%v: got %v, want %v", what, got, want)
	}
}

func sameDocs(a, b api.Doc) bool {
	return slices.EqualFunc(a.Subs, b.Subs, func(x, y api.Sub) bool {
		return x.Name == y.Name && slices.Equal(x.Lines, y.Lines)
	})
}

func wantDoc(t *testing.T, what any, got, want api.Doc) {
	t.Helper()
	if !sameDocs(got, want) {
		t.Errorf("%v: got %v, want %v", what, got, want)
	}
}

// isZero tells whether a result is a zero value, or an empty list.
func isZero(v any) bool {
	x := reflect.ValueOf(v)
	if x.Kind() == reflect.Slice {
		return x.Len() == 0
	}
	return x.IsZero()
}

// result is what a call returned beside its error.
type result struct {
	value any
	e     api.Errno
}

// of makes a result of what a call returns.
func of[T any](v T, e api.Errno) result { return result{v, e} }

// callAll calls all functions with a document. The other arguments are given: they may be of any size.
func callAll(d api.Doc, i int, name string) map[string]result {
	return map[string]result{
		"Check":   {"", text.Check(d)},
		"Write":   of(text.Write(d)),
		"Flatten": of(text.Flatten(d)),
		"Count":   of(text.Count(d)),
		"Inline":  of(text.Inline(d, i)),
		"Prune":   of(text.Prune(d)),
		"Rename":  of(text.Rename(d, i, name)),
	}
}
