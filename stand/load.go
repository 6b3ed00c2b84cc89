package stand

import "studwork/api"

// flow is the weights of a scene on their way to the ground.
type flow struct {
	scene
	*ways
	ground  []int  // what each brick puts on the ground
	falling []bool // the bricks from which some weight has no way
}

// flowOf pushes the weight of one brick after the other to the ground.
func flowOf(s scene) flow {
	n := len(s.bricks)
	f := flow{s, waysOf(s.stack), make([]int, n), make([]bool, n)}
	for i := range n {
		f.drop(i)
	}
	return f
}

// drop pushes the weight of a brick, way by way, until nothing is left of it, or there is no way. What was visited then falls, whatever is pushed later: no way leads out of it, and so no later one leads through it.
func (f flow) drop(brick int) {
	for left := f.weight(brick); left > 0; {
		pushed, been := f.find(brick, left)
		if pushed == 0 {
			for i := range f.falling {
				f.falling[i] = f.falling[i] || been[i]
			}
			return
		}
		left -= pushed
	}
}

// find pushes as much as one way from a brick to the ground has room for. It returns this, and the bricks that were visited.
func (f flow) find(brick, amount int) (int, []bool) {
	been := make([]bool, len(f.bricks))
	var visit func(at, amount int) int
	visit = func(at, amount int) int {
		been[at] = true
		if f.grounded[at] {
			f.ground[at] += amount
			return amount
		}
		for to := range been {
			room := f.room(at, to)
			if room == 0 || been[to] {
				continue
			}
			if pushed := visit(to, min(amount, room)); pushed > 0 {
				f.push(at, to, pushed)
				return pushed
			}
		}
		return 0
	}
	return visit(brick, amount), been
}

// Falling returns the falling bricks.
func Falling(l []api.Kind, m api.Model, r api.Rest) ([]int, api.Errno) {
	s, e := sceneOf(l, m, r)
	if e != api.OK {
		return nil, e
	}
	return flowOf(s).fallen(), api.OK
}

func (f flow) fallen() []int {
	var l []int
	for i, falls := range f.falling {
		if falls {
			l = append(l, i)
		}
	}
	return l
}

// Loads returns loads that carry a model.
func Loads(l []api.Kind, m api.Model, r api.Rest) ([]api.Load, api.Errno) {
	s, e := sceneOf(l, m, r)
	if e != api.OK {
		return nil, e
	}
	f := flowOf(s)
	if len(f.fallen()) > 0 {
		return nil, api.ErrProof
	}
	return f.loads(), api.OK
}

func (f flow) loads() []api.Load {
	var l []api.Load
	for from := range f.bricks {
		if n := f.ground[from]; n > 0 {
			l = append(l, api.Load{From: from, To: api.Ground, Amount: n})
		}
		for to := range f.bricks {
			if n := f.ways[from][to].put; n > 0 {
				l = append(l, api.Load{From: from, To: to, Amount: n})
			}
		}
	}
	return l
}

// CheckLoads returns ErrProof unless loads carry a model.
func CheckLoads(l []api.Kind, m api.Model, r api.Rest, loads []api.Load) api.Errno {
	s, e := sceneOf(l, m, r)
	if e != api.OK {
		return e
	}
	if !areLoads(s, loads) || !carry(s, loads) {
		return api.ErrProof
	}
	return api.OK
}

// areLoads tells whether loads are valid. Then they are few enough that their sums cannot overflow.
func areLoads(s scene, loads []api.Load) bool {
	w := waysOf(s.stack)
	for i, x := range loads {
		if i > 0 && !follows(x, loads[i-1]) || !within(x.From, 0, len(s.bricks)-1) || !within(x.Amount, 1, api.MaxLoad) {
			return false
		}
		if x.To == api.Ground {
			if !s.grounded[x.From] {
				return false
			}
			continue
		}
		// A brick has no way to itself, and so it may put nothing there.
		if !within(x.To, 0, len(s.bricks)-1) || x.Amount > w[x.From][x.To].limit {
			return false
		}
	}
	return true
}

// follows tells whether a load comes after another one.
func follows(x, last api.Load) bool {
	return x.From > last.From || x.From == last.From && x.To > last.To
}

// carry tells whether each brick puts on others and on the ground as much as it weighs, and what is put on it.
func carry(s scene, loads []api.Load) bool {
	open := make([]int, len(s.bricks))
	for i := range open {
		open[i] = s.weight(i)
	}
	for _, x := range loads {
		open[x.From] -= x.Amount
		if x.To != api.Ground {
			open[x.To] += x.Amount
		}
	}
	for _, n := range open {
		if n != 0 {
			return false
		}
	}
	return true
}

// Excess returns the excess of a set of bricks.
func Excess(l []api.Kind, m api.Model, r api.Rest, set []int) (int, api.Errno) {
	s, e := sceneOf(l, m, r)
	if e != api.OK {
		return 0, e
	}
	if !isSet(set, len(m.Bricks)) {
		return 0, api.ErrArg
	}
	n, ok := excess(s, set)
	if !ok {
		return 0, api.ErrProof
	}
	return n, api.OK
}

// excess returns the weight of a set less what its bricks may put on others, and false if something carries it without limit.
func excess(s scene, set []int) (int, bool) {
	w := waysOf(s.stack)
	in := members(set, len(s.bricks))
	sum := 0
	for _, from := range set {
		if s.grounded[from] {
			return 0, false
		}
		sum += s.weight(from)
		for to := range s.bricks {
			if in[to] {
				continue
			}
			if w[from][to].rests {
				return 0, false
			}
			sum -= w[from][to].limit
		}
	}
	return sum, true
}
