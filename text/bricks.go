package text

import (
	"slices"

	"studwork/api"
	"studwork/lattice"
)

// tally is how many bricks there are of each kind and colour.
type tally [api.MaxKinds][api.MaxColor + 1]int

// add adds the bricks of a sub-model that is used in a colour.
func (t *tally) add(o tally, color uint8) {
	for kind, row := range o {
		for c, n := range row {
			if c == 0 {
				c = int(color)
			}
			t[kind][c] += n
		}
	}
}

func (t *tally) sum() int {
	sum := 0
	for _, row := range t {
		for _, n := range row {
			sum += n
		}
	}
	return sum
}

// tallies returns the tallies of all sub-models. The last one comes first, since only later ones are used; so each is gone through once, however many bricks there are.
func tallies(d api.Doc) []tally {
	all := make([]tally, len(d.Subs))
	for i, s := range slices.Backward(d.Subs) {
		for _, l := range s.Lines {
			if isBrick(l) {
				all[i][l.Brick.Kind][l.Brick.Color]++
			} else {
				all[i].add(all[l.Sub], l.Brick.Color)
			}
		}
	}
	return all
}

// Count returns how many bricks the main sub-model has of each kind and colour.
func Count(d api.Doc) ([]api.Item, api.Errno) {
	if e := Check(d); e != api.OK {
		return nil, e
	}
	var items []api.Item
	for kind, row := range tallies(d)[0] {
		for color, n := range row {
			if n > 0 {
				items = append(items, api.Item{Kind: kind, Color: uint8(color), N: n})
			}
		}
	}
	return items, api.OK
}

// Flatten returns the model of all bricks of the main sub-model.
func Flatten(d api.Doc) (api.Model, api.Errno) {
	if e := Check(d); e != api.OK {
		return api.Model{}, e
	}
	counts := tallies(d)
	if counts[0].sum() > api.MaxBricks {
		return api.Model{}, api.ErrMany
	}
	bricks := bricksOf(d, counts)
	if slices.ContainsFunc(bricks, func(b api.Brick) bool { return !isPlace(b.At) }) {
		return api.Model{}, api.ErrBrick
	}
	return api.Model{Bricks: bricks}, api.OK
}

// bricksOf returns the bricks of the main sub-model. Sub-models without bricks are not visited, since there may be very many uses of them.
func bricksOf(d api.Doc, counts []tally) []api.Brick {
	var found []api.Brick
	var visit func(sub int, use api.Brick)
	visit = func(sub int, use api.Brick) {
		if counts[sub].sum() == 0 {
			return
		}
		for _, l := range d.Subs[sub].Lines {
			b := placed(l.Brick, use)
			if isBrick(l) {
				found = append(found, b)
			} else {
				visit(l.Sub, b)
			}
		}
	}
	visit(0, api.Brick{})
	return found
}

// placed returns what a line says, placed by a use. The line is one of a document, so that lattice.Turn takes its place; the use may be placed by others already, and be anywhere.
func placed(line, use api.Brick) api.Brick {
	turn, _ := lattice.Compose(int(line.Turn), int(use.Turn))
	at, _ := lattice.Turn(line.At, int(use.Turn))
	line.Turn = uint8(turn)
	line.At = api.Cell{X: at.X + use.At.X, Y: at.Y + use.At.Y, Z: at.Z + use.At.Z}
	if line.Color == 0 {
		line.Color = use.Color
	}
	return line
}
