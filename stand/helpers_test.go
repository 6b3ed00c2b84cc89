package stand_test

import (
	"math"
	"math/rand"
	"reflect"
	"slices"
	"testing"

	"studwork/api"
	"studwork/stand"
)

// The helpers here follow the words of the chapter as plainly as they can, and call no function of the program, so that tests can hold its results against theirs.

var extremes = []int{math.MinInt, math.MinInt + 1, math.MinInt32, -2001, -2, -1, 41, 2001, math.MaxInt32, math.MaxInt - 1, math.MaxInt}

func cell(x, y, z int) api.Cell { return api.Cell{X: x, Y: y, Z: z} }

func knob(x, y, z int, dir, sort uint8) api.Knob {
	return api.Knob{At: cell(x, y, z), Dir: dir, Sort: sort}
}

func brick(kind, x, y, z int, turn uint8) api.Brick {
	return api.Brick{Kind: kind, At: cell(x, y, z), Turn: turn}
}

func model(l ...api.Brick) api.Model { return api.Model{Bricks: l} }

func rest(table int, hands ...int) api.Rest { return api.Rest{Table: table, Hands: hands} }

func load(from, to, amount int) api.Load { return api.Load{From: from, To: to, Amount: amount} }

// bar is a kind of n cells in a row, with studs above and tubes below.
func bar(n, weight int) api.Kind {
	k := api.Kind{Weight: weight}
	for x := range n {
		k.Cells = append(k.Cells, cell(x, 0, 0))
		k.Knobs = append(k.Knobs, knob(x, 0, 0, 4, 1), knob(x, 0, 0, 5, 2))
	}
	return k
}

// smooth is a kind of cells without knobs.
func smooth(weight int, cells ...api.Cell) api.Kind { return api.Kind{Cells: cells, Weight: weight} }

// rows is the kind of the chapter's examples.
func rows() []api.Kind { return []api.Kind{bar(3, 3)} }

// first, hanging and third are the models of the chapter's examples.
func first() api.Model { return model(brick(0, 0, 0, 0, 0), brick(0, 2, 0, 1, 0)) }

func hanging() api.Model { return model(brick(0, 0, 0, 1, 0), brick(0, 2, 0, 0, 0)) }

func third() api.Model { return model(append(first().Bricks, brick(0, 4, 0, 2, 0))...) }

func stepAlong(d uint8) api.Cell {
	return []api.Cell{{X: 1}, {X: -1}, {Y: 1}, {Y: -1}, {Z: 1}, {Z: -1}}[d]
}

func plus(a, b api.Cell) api.Cell { return cell(a.X+b.X, a.Y+b.Y, a.Z+b.Z) }

// wantTurn turns a cell as the section Terms of layer 1 says.
func wantTurn(c api.Cell, n uint8) api.Cell {
	for range n % 4 {
		c = cell(-c.Y, c.X, c.Z)
	}
	for _, about := range []string{"", "x", "xx", "xxx", "xz", "xzzz"}[n/4] {
		if about == 'x' {
			c = cell(c.X, -c.Z, c.Y)
		} else {
			c = cell(-c.Y, c.X, c.Z)
		}
	}
	return c
}

func wantDirection(d, n uint8) uint8 {
	for i := range uint8(6) {
		if stepAlong(i) == wantTurn(stepAlong(d), n) {
			return i
		}
	}
	panic("no direction")
}

func cellsOf(l []api.Kind, b api.Brick) []api.Cell {
	var all []api.Cell
	for _, c := range l[b.Kind].Cells {
		all = append(all, plus(wantTurn(c, b.Turn), b.At))
	}
	return all
}

func knobsOf(l []api.Kind, b api.Brick) []api.Knob {
	var all []api.Knob
	for _, k := range l[b.Kind].Knobs {
		all = append(all, api.Knob{At: plus(wantTurn(k.At, b.Turn), b.At), Dir: wantDirection(k.Dir, b.Turn), Sort: k.Sort})
	}
	return all
}

func lowest(l []api.Kind, b api.Brick) int {
	z := math.MaxInt
	for _, c := range cellsOf(l, b) {
		z = min(z, c.Z)
	}
	return z
}

func wantGrounded(l []api.Kind, m api.Model, r api.Rest) []bool {
	var all []bool
	for i, b := range m.Bricks {
		table := slices.ContainsFunc(cellsOf(l, b), func(c api.Cell) bool { return c.Z == r.Table })
		all = append(all, table || slices.Contains(r.Hands, i))
	}
	return all
}

func wantRests(l []api.Kind, a, b api.Brick) bool {
	below := cellsOf(l, b)
	return slices.ContainsFunc(cellsOf(l, a), func(c api.Cell) bool { return slices.Contains(below, plus(c, cell(0, 0, -1))) })
}

// link is a link between two bricks: the cells of its knobs, and how strong it is.
type link struct {
	a, b     api.Cell
	strength int
}

func wantLinks(l []api.Kind, a, b api.Brick) []link {
	strengths := map[[2]uint8]int{{1, 2}: 2, {2, 1}: 2, {3, 4}: 3, {4, 3}: 3, {5, 6}: 5, {6, 5}: 5}
	var all []link
	for _, k := range knobsOf(l, a) {
		for _, o := range knobsOf(l, b) {
			s := strengths[[2]uint8{k.Sort, o.Sort}]
			if s > 0 && plus(k.At, stepAlong(k.Dir)) == o.At && k.Dir^1 == o.Dir {
				all = append(all, link{k.At, o.At, s})
			}
		}
	}
	return all
}

func wantCapacity(l []api.Kind, m api.Model, from, to int) int {
	a, b := m.Bricks[from], m.Bricks[to]
	if wantRests(l, a, b) {
		return 1 << 30
	}
	n := 0
	for _, k := range wantLinks(l, a, b) {
		n += 10 * k.strength
	}
	return n
}

// wantExcess returns the excess of a set, and whether it has one.
func wantExcess(l []api.Kind, m api.Model, r api.Rest, set []int) (int, bool) {
	n := 0
	for _, i := range set {
		if wantGrounded(l, m, r)[i] {
			return 0, false
		}
		n += l[m.Bricks[i].Kind].Weight
		for j := range m.Bricks {
			if slices.Contains(set, j) {
				continue
			}
			if wantRests(l, m.Bricks[i], m.Bricks[j]) {
				return 0, false
			}
			n -= wantCapacity(l, m, i, j)
		}
	}
	return n, true
}

// wantFalling tries all sets of bricks. It works on numbers of what bricks may do, as there are many sets.
func wantFalling(t *testing.T, l []api.Kind, m api.Model, r api.Rest) []int {
	t.Helper()
	n := len(m.Bricks)
	grounded := wantGrounded(l, m, r)
	may := make([][]int, n)
	for i := range may {
		may[i] = make([]int, n)
		for j := range may {
			if i != j {
				may[i][j] = wantCapacity(l, m, i, j)
			}
		}
	}
	excess := func(set int) (int, bool) {
		sum := 0
		for i := range n {
			if set>>i&1 == 0 {
				continue
			}
			if grounded[i] {
				return 0, false
			}
			sum += l[m.Bricks[i].Kind].Weight
			for j := range n {
				if set>>j&1 == 0 {
					if may[i][j] == 1<<30 {
						return 0, false
					}
					sum -= may[i][j]
				}
			}
		}
		return sum, true
	}
	best, most, fewest, ties := 0, 0, 0, 0
	for set := 1; set < 1<<n; set++ {
		x, ok := excess(set)
		size := len(bits(set))
		if !ok || x < most || x == most && size > fewest {
			continue
		}
		if x == most && size == fewest {
			ties++
			continue
		}
		best, most, fewest, ties = set, x, size, 0
	}
	if ties > 0 {
		t.Error("several sets fall", m, r)
	}
	return bits(best)
}

func bits(set int) []int {
	var l []int
	for i := range 62 {
		if set>>i&1 == 1 {
			l = append(l, i)
		}
	}
	return l
}

// wantProof tells whether loads are valid, and carry a model.
func wantProof(l []api.Kind, m api.Model, r api.Rest, loads []api.Load) bool {
	n := len(m.Bricks)
	sums := make([]int, n)
	for i, b := range m.Bricks {
		sums[i] = l[b.Kind].Weight
	}
	for i, x := range loads {
		if x.From < 0 || x.From >= n || x.To < -1 || x.To >= n || x.From == x.To || x.Amount < 1 || x.Amount > 1<<30 {
			return false
		}
		if x.To == -1 && !wantGrounded(l, m, r)[x.From] || x.To >= 0 && x.Amount > wantCapacity(l, m, x.From, x.To) {
			return false
		}
		if i > 0 && !(loads[i-1].From < x.From || loads[i-1].From == x.From && loads[i-1].To < x.To) {
			return false
		}
		sums[x.From] -= x.Amount
		if x.To >= 0 {
			sums[x.To] += x.Amount
		}
	}
	return !slices.ContainsFunc(sums, func(n int) bool { return n != 0 })
}

func wantMiddle(l []api.Kind, b api.Brick) (int, int) {
	all := cellsOf(l, b)
	byX := func(a, b api.Cell) int { return a.X - b.X }
	byY := func(a, b api.Cell) int { return a.Y - b.Y }
	return slices.MinFunc(all, byX).X + slices.MaxFunc(all, byX).X, slices.MinFunc(all, byY).Y + slices.MaxFunc(all, byY).Y
}

func wantCorners(c api.Cell) []api.Support {
	return []api.Support{{X: 2*c.X - 1, Y: 2*c.Y - 1}, {X: 2*c.X + 1, Y: 2*c.Y - 1}, {X: 2*c.X - 1, Y: 2*c.Y + 1}, {X: 2*c.X + 1, Y: 2*c.Y + 1}}
}

func wantSupports(l []api.Kind, m api.Model, r api.Rest, part []int) []api.Support {
	var all []api.Support
	for _, i := range part {
		b := m.Bricks[i]
		for _, c := range cellsOf(l, b) {
			carried := c.Z == r.Table
			for j, o := range m.Bricks {
				if !slices.Contains(part, j) && slices.Contains(cellsOf(l, o), plus(c, cell(0, 0, -1))) {
					carried = true
				}
			}
			if carried {
				all = append(all, wantCorners(c)...)
			}
		}
		for j, o := range m.Bricks {
			if slices.Contains(part, j) {
				continue
			}
			for _, k := range wantLinks(l, b, o) {
				all = append(all, api.Support{X: k.a.X + k.b.X, Y: k.a.Y + k.b.Y, Pull: 10 * k.strength})
			}
		}
		if slices.Contains(r.Hands, i) {
			x, y := wantMiddle(l, b)
			all = append(all, api.Support{X: x, Y: y})
			for _, c := range cellsOf(l, b) {
				all = append(all, wantCorners(c)...)
			}
		}
	}
	sortSupports(all)
	return all
}

func sortSupports(l []api.Support) {
	slices.SortFunc(l, func(a, b api.Support) int {
		if a.Y != b.Y {
			return a.Y - b.Y
		}
		if a.X != b.X {
			return a.X - b.X
		}
		return a.Pull - b.Pull
	})
}

// wantPoint returns the point of a part, as the place (x / d, y / d).
func wantPoint(l []api.Kind, m api.Model, part []int, supports []api.Support) (x, y, d int) {
	for _, i := range part {
		w := l[m.Bricks[i].Kind].Weight
		a, b := wantMiddle(l, m.Bricks[i])
		x, y, d = x+w*a, y+w*b, d+w
	}
	for _, s := range supports {
		x, y, d = x+s.Pull*s.X, y+s.Pull*s.Y, d+s.Pull
	}
	return x, y, d
}

// within tells whether a point is in the convex hull of supports. It is not if, seen from it, they all lie within less than half a turn to the left of one of them.
func within(supports []api.Support, x, y, d int) bool {
	for _, a := range supports {
		ax, ay := a.X*d-x, a.Y*d-y
		if !slices.ContainsFunc(supports, func(b api.Support) bool {
			bx, by := b.X*d-x, b.Y*d-y
			cross, dot := ax*by-ay*bx, ax*bx+ay*by
			return cross < 0 || cross == 0 && dot <= 0
		}) {
			return false
		}
	}
	return len(supports) > 0
}

func wantBalanced(l []api.Kind, m api.Model, r api.Rest, part []int) bool {
	supports := wantSupports(l, m, r, part)
	x, y, d := wantPoint(l, m, part, supports)
	return within(supports, x, y, d)
}

// wantRight tells whether a poise is right for a part.
func wantRight(l []api.Kind, m api.Model, r api.Rest, part []int, p api.Poise) bool {
	supports := wantSupports(l, m, r, part)
	x, y, d := wantPoint(l, m, part, supports)
	if p.Balanced {
		if p.A != 0 || p.B != 0 || p.C != 0 || p.At[0] < 0 || p.At[1] < p.At[0] || p.At[2] < p.At[1] || p.At[2] >= len(supports) {
			return false
		}
		return within([]api.Support{supports[p.At[0]], supports[p.At[1]], supports[p.At[2]]}, x, y, d)
	}
	if p.At != [3]int{} || p.A < -10000 || p.A > 10000 || p.B < -10000 || p.B > 10000 || p.A == 0 && p.B == 0 || p.C < -(1<<40) || p.C > 1<<40 {
		return false
	}
	for _, s := range supports {
		if p.A*s.X+p.B*s.Y > p.C {
			return false
		}
	}
	return p.A*x+p.B*y > p.C*d
}

// wantTopples looks at one plane after the other.
func wantTopples(l []api.Kind, m api.Model, r api.Rest) (int, bool) {
	for z := r.Table; z <= 1100; z++ {
		var part []int
		for i, b := range m.Bricks {
			if lowest(l, b) >= z {
				part = append(part, i)
			}
		}
		if len(part) == 0 {
			break
		}
		if !wantBalanced(l, m, r, part) {
			return z, true
		}
	}
	return 0, false
}

// randomKinds has small kinds, most of whose knobs fit those of others when they are not turned. Some lists are light, and some heavy.
func randomKinds(r *rand.Rand) []api.Kind {
	most := 1 + r.Intn(100)
	weight := func() int { return 1 + r.Intn(most) }
	l := []api.Kind{bar(1, weight()), bar(2, weight()), bar(4, weight())}
	for range 3 {
		k := smooth(weight())
		for i := range 8 {
			if r.Intn(2) == 0 {
				k.Cells = append(k.Cells, cell(i%2, i/2%2, i/4))
			}
		}
		if len(k.Cells) == 0 {
			k.Cells = []api.Cell{{}}
		}
		odd := uint8(1 + 2*r.Intn(3))
		for _, c := range k.Cells {
			for d := range uint8(6) {
				if r.Intn(3) == 0 || slices.Contains(k.Cells, plus(c, stepAlong(d))) {
					continue
				}
				sort := odd + d%2
				if r.Intn(4) == 0 {
					sort = uint8(1 + r.Intn(6))
				}
				k.Knobs = append(k.Knobs, api.Knob{At: c, Dir: d, Sort: sort})
			}
		}
		l = append(l, k)
	}
	return l
}

// randomModel returns a valid model of up to so many bricks near each other.
func randomModel(r *rand.Rand, l []api.Kind, most int) api.Model {
	var m api.Model
	taken := map[api.Cell]bool{}
	for range 4 * most {
		b := brick(r.Intn(len(l)), r.Intn(5)-2, r.Intn(3)-1, r.Intn(4), uint8(r.Intn(24)))
		if r.Intn(3) > 0 {
			b.Turn %= 4
		}
		cells := cellsOf(l, b)
		if len(m.Bricks) == most || slices.ContainsFunc(cells, func(c api.Cell) bool { return taken[c] }) {
			continue
		}
		for _, c := range cells {
			taken[c] = true
		}
		m.Bricks = append(m.Bricks, b)
	}
	return m
}

// randomRest puts the table below the lowest bricks, or further down, and holds some of the bricks, or all of them.
func randomRest(r *rand.Rand, l []api.Kind, m api.Model) api.Rest {
	table := 0
	for _, b := range m.Bricks {
		table = min(table, lowest(l, b))
	}
	held := rest(table - r.Intn(3)/2)
	few := 1 + r.Intn(6)
	for i := range m.Bricks {
		if r.Intn(few) == 0 {
			held.Hands = append(held.Hands, i)
		}
	}
	return held
}

// randomPart returns at least one of n bricks.
func randomPart(r *rand.Rand, n int) []int {
	part := []int{r.Intn(n)}
	for i := range n {
		if i != part[0] && r.Intn(3) == 0 {
			part = append(part, i)
		}
	}
	slices.Sort(part)
	return part
}

func all(n int) []int {
	var l []int
	for i := range n {
		l = append(l, i)
	}
	return l
}

func wantErr(t *testing.T, what any, got, want api.Errno) {
	t.Helper()
	if got != want {
		t.Errorf("%v: got error %d, want %d", what, got, want)
	}
}

// same holds slices against each other; nil and empty ones are the same.
func same[T comparable](t *testing.T, what any, got, want []T) {
	t.Helper()
	if !slices.Equal(got, want) {
		t.Errorf("%v: got %v, want %v", what, got, want)
	}
}

// isZero tells whether a result is a zero value, or an empty list.
func isZero(v any) bool {
	x := reflect.ValueOf(v)
	if x.Kind() == reflect.Slice {
		return x.Len() == 0
	}
	return x.IsZero()
}

// result is what a call returned beside its error.
type result struct {
	value any
	e     api.Errno
}

// of makes a result of what a call returns.
func of[T any](v T, e api.Errno) result { return result{v, e} }

// plane is what Topples returns.
type plane struct {
	z  int
	ok bool
}

func topples(l []api.Kind, m api.Model, r api.Rest) result {
	z, ok, e := stand.Topples(l, m, r)
	return result{plane{z, ok}, e}
}

// withRest calls all functions with a rest. The other arguments are given: they may be of any size.
func withRest(l []api.Kind, m api.Model, r api.Rest, part []int, loads []api.Load, p api.Poise) map[string]result {
	return map[string]result{
		"CheckRest":  {0, stand.CheckRest(l, m, r)},
		"Grounded":   of(stand.Grounded(l, m, r)),
		"Falling":    of(stand.Falling(l, m, r)),
		"Loads":      of(stand.Loads(l, m, r)),
		"CheckLoads": {0, stand.CheckLoads(l, m, r, loads)},
		"Excess":     of(stand.Excess(l, m, r, part)),
		"Supports":   of(stand.Supports(l, m, r, part)),
		"Balance":    of(stand.Balance(l, m, r, part)),
		"CheckPoise": {0, stand.CheckPoise(l, m, r, part, p)},
		"Topples":    topples(l, m, r),
	}
}

// allFail checks that calls return an error, and zero values beside it.
func allFail(t *testing.T, what any, calls map[string]result, want api.Errno) {
	t.Helper()
	for name, r := range calls {
		if r.e != want || !isZero(r.value) {
			t.Errorf("%v: %s: got %v with error %d, want error %d", what, name, r.value, r.e, want)
		}
	}
}
