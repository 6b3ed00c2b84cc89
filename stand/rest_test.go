package stand_test

import (
	"math/rand"
	"testing"

	"studwork/api"
	"studwork/stand"
)

// badModels are no valid models, each with the error of layer 1.
func badModels() []struct {
	l    []api.Kind
	m    api.Model
	want api.Errno
} {
	bad := rows()[0]
	bad.Weight = 101
	many := api.Model{Bricks: make([]api.Brick, 41)}
	return []struct {
		l    []api.Kind
		m    api.Model
		want api.Errno
	}{
		{make([]api.Kind, 17), many, api.ErrMany},
		{[]api.Kind{bad}, many, api.ErrKind},
		{rows(), many, api.ErrMany},
		{rows(), model(brick(1, 0, 0, 0, 0), brick(0, 0, 0, 0, 0), brick(0, 0, 0, 0, 0)), api.ErrBrick},
		{nil, model(api.Brick{}), api.ErrBrick},
		{rows(), model(brick(0, 0, 0, 0, 0), brick(0, 2, 0, 0, 0)), api.ErrOverlap},
	}
}

// The error of layer 1 comes first, whatever the other arguments are.
func TestP3_1ErrorsOfModels(t *testing.T) {
	for i, x := range badModels() {
		allFail(t, i, withRest(x.l, x.m, rest(0), []int{0}, nil, api.Poise{}), x.want)
		allFail(t, i, withRest(x.l, x.m, rest(9999, -5), []int{-1}, []api.Load{{}}, api.Poise{}), x.want)
		allFail(t, i, map[string]result{"Capacity": of(stand.Capacity(x.l, x.m, 0, 1)), "Capacity, too": of(stand.Capacity(x.l, x.m, -1, -1))}, x.want)
	}
}

func TestP3_1ValidRests(t *testing.T) {
	low := model(brick(0, 0, 0, -1000, 0), brick(0, 0, 0, 0, 0), brick(0, 0, 0, 9, 0))
	for _, r := range []api.Rest{rest(-1000), rest(-2000), rest(-1001, 0, 1, 2), rest(-1000, 0), rest(-1000, 2), rest(-1500, 0, 2), {Table: -1000, Hands: []int{}}} {
		wantErr(t, r, stand.CheckRest(rows(), low, r), api.OK)
	}
	for _, table := range []int{2000, -2000, 0, 1999} {
		wantErr(t, table, stand.CheckRest(nil, model(), rest(table)), api.OK)
	}
	// The cells of a brick that is turned over are below its place.
	tower := []api.Kind{smooth(1, cell(0, 0, 0), cell(0, 0, 1), cell(0, 0, 2))}
	wantErr(t, "over", stand.CheckRest(tower, model(brick(0, 0, 0, 0, 8)), rest(-2)), api.OK)
	wantErr(t, "over", stand.CheckRest(tower, model(brick(0, 0, 0, 0, 8)), rest(-1)), api.ErrRest)
	wantErr(t, "over", stand.CheckRest(tower, model(brick(0, 0, 0, 1000, 0)), rest(1000)), api.OK)
}

func TestP3_1ErrRest(t *testing.T) {
	var bad []api.Rest
	for _, n := range extremes {
		if n != -1 && n != -2 {
			bad = append(bad, rest(n))
		}
		bad = append(bad, rest(0, n), rest(0, 0, n), rest(0, n, 1))
	}
	bad = append(bad, rest(1), rest(2000), rest(0, 2), rest(0, 1, 0), rest(0, 0, 0), rest(0, 1, 1), rest(0, 0, 1, 1), rest(0, 0, 1, 2))
	for _, r := range bad {
		allFail(t, r, withRest(rows(), first(), r, []int{0}, nil, api.Poise{}), api.ErrRest)
		allFail(t, r, withRest(rows(), first(), r, []int{9}, []api.Load{{}}, api.Poise{Balanced: true, A: 1}), api.ErrRest)
	}
	// The table may be below the lowest cell, and not above it.
	allFail(t, "hanging", withRest(rows(), hanging(), rest(1), []int{0}, nil, api.Poise{}), api.ErrRest)
	allFail(t, "no bricks", withRest(nil, model(), rest(0, 0), nil, nil, api.Poise{}), api.ErrRest)
	allFail(t, "no bricks", withRest(nil, model(), rest(2001), nil, nil, api.Poise{}), api.ErrRest)
	allFail(t, "no bricks", withRest(nil, model(), rest(-2001), nil, nil, api.Poise{}), api.ErrRest)
}

func TestP3_1Grounded(t *testing.T) {
	for i, x := range []struct {
		m    api.Model
		r    api.Rest
		want []bool
	}{
		{first(), rest(0), []bool{true, false}},
		{first(), rest(0, 1), []bool{true, true}},
		{first(), rest(0, 0, 1), []bool{true, true}},
		{first(), rest(-1), []bool{false, false}},
		{first(), rest(-1, 0), []bool{true, false}},
		{third(), rest(-2000, 2), []bool{false, false, true}},
		{model(), rest(5), nil},
	} {
		g, e := stand.Grounded(rows(), x.m, x.r)
		wantErr(t, i, e, api.OK)
		same(t, i, g, x.want)
	}
	// One cell on the table is enough, whichever it is.
	arch := []api.Kind{smooth(1, cell(1, 0, 0), cell(0, 0, 1), cell(1, 0, 1))}
	g, e := stand.Grounded(arch, model(brick(0, 0, 0, 0, 0), brick(0, 5, 0, 1, 0)), rest(0))
	wantErr(t, "arch", e, api.OK)
	same(t, "arch", g, []bool{true, false})
}

func TestP3_1CapacityExample(t *testing.T) {
	for _, x := range [][3]int{{1, 0, api.MaxLoad}, {0, 1, 20}} {
		n, e := stand.Capacity(rows(), first(), x[0], x[1])
		if e != api.OK || n != x[2] {
			t.Error(x, n, e)
		}
	}
}

func TestP3_1Capacity(t *testing.T) {
	// The brick 1 lies on three studs of 0; 2 is beside 0, and 3 further up, both without a joint; 4 is smooth, and lies on 0.
	l := []api.Kind{bar(4, 1), smooth(1, cell(0, 0, 0))}
	m := model(brick(0, 0, 0, 0, 0), brick(0, 1, 0, 1, 0), brick(0, 0, 1, 0, 0), brick(0, 1, 0, 3, 0), brick(1, 0, 0, 1, 0))
	for _, x := range [][3]int{{1, 0, api.MaxLoad}, {0, 1, 60}, {0, 2, 0}, {2, 0, 0}, {3, 1, 0}, {1, 3, 0}, {4, 0, api.MaxLoad}, {0, 4, 0}, {4, 1, 0}} {
		n, e := stand.Capacity(l, m, x[0], x[1])
		if e != api.OK || n != x[2] {
			t.Error(x, n, e)
		}
	}
}

// Two hooks are in each other, and each rests on the other one.
func TestP3_1Hooks(t *testing.T) {
	hook := smooth(1, cell(0, 0, 0), cell(1, 0, 0), cell(0, 0, 1), cell(0, 0, 2), cell(1, 0, 2))
	l, m := []api.Kind{hook}, model(brick(0, 0, 0, 0, 0), brick(0, 2, 0, 1, 2))
	for _, x := range [][2]int{{0, 1}, {1, 0}} {
		n, e := stand.Capacity(l, m, x[0], x[1])
		if e != api.OK || n != api.MaxLoad {
			t.Error(x, n, e)
		}
	}
	// Neither of them is carried by the other one.
	fall, e := stand.Falling(l, m, rest(-1))
	wantErr(t, "hooks", e, api.OK)
	same(t, "hooks", fall, []int{0, 1})
	for i := range 2 {
		fall, e := stand.Falling(l, m, rest(-1, i))
		wantErr(t, i, e, api.OK)
		same(t, i, fall, nil)
	}
}

// Studs, bars and pins have the strengths 2, 3 and 5, also at the sides, and both ways.
func TestP3_1CapacityOfSorts(t *testing.T) {
	for sort, want := range map[uint8]int{1: 20, 3: 30, 5: 50} {
		odd, even := smooth(1, cell(0, 0, 0)), smooth(1, cell(0, 0, 0))
		odd.Knobs = []api.Knob{knob(0, 0, 0, 0, sort)}
		even.Knobs = []api.Knob{knob(0, 0, 0, 1, sort+1)}
		l, m := []api.Kind{odd, even}, model(brick(0, 0, 0, 0, 0), brick(1, 1, 0, 0, 0))
		for _, x := range [][2]int{{0, 1}, {1, 0}} {
			n, e := stand.Capacity(l, m, x[0], x[1])
			if e != api.OK || n != want {
				t.Error(sort, x, n, e)
			}
		}
	}
}

func TestP3_1CapacityOfAnyBricks(t *testing.T) {
	r := rand.New(rand.NewSource(31))
	for range 100 {
		l := randomKinds(r)
		m := randomModel(r, l, 8)
		for a := range m.Bricks {
			for b := range m.Bricks {
				if a == b {
					continue
				}
				n, e := stand.Capacity(l, m, a, b)
				if want := wantCapacity(l, m, a, b); e != api.OK || n != want {
					t.Fatal(m, a, b, n, e, want)
				}
			}
		}
		held := randomRest(r, l, m)
		g, e := stand.Grounded(l, m, held)
		wantErr(t, m, e, api.OK)
		same(t, m, g, wantGrounded(l, m, held))
	}
}

func TestP3_1CapacityErrArg(t *testing.T) {
	for _, x := range [][2]int{{0, 0}, {1, 1}, {0, 2}, {2, 0}, {-1, 0}, {0, -1}} {
		allFail(t, x, map[string]result{"Capacity": of(stand.Capacity(rows(), first(), x[0], x[1]))}, api.ErrArg)
	}
	for _, n := range extremes {
		for _, x := range [][2]int{{n, 0}, {1, n}, {n, n}} {
			allFail(t, x, map[string]result{"Capacity": of(stand.Capacity(rows(), first(), x[0], x[1]))}, api.ErrArg)
		}
	}
	allFail(t, "no bricks", map[string]result{"Capacity": of(stand.Capacity(nil, model(), 0, 1))}, api.ErrArg)
}
