package steps

import (
	"slices"

	"studwork/api"
)

// Find returns the steps of the first good order.
func Find(l []api.Kind, m api.Model, r api.Rest, most int) ([]api.Step, api.Errno) {
	p, e := smallPlanOf(l, m, r)
	if e != api.OK {
		return nil, e
	}
	if !within(most, 1, api.MaxPuts) {
		return nil, api.ErrArg
	}
	order, ok := p.firstOrder()
	if !ok {
		return nil, api.ErrNone
	}
	return p.guide(order, most), api.OK
}

// guide returns the steps of a good order.
func (p plan) guide(order []int, most int) []api.Step {
	var steps []api.Step
	var there set
	for part := range slices.Chunk(order, most) {
		var x api.Step
		var step set
		for _, i := range part {
			x.Puts = append(x.Puts, api.Put{Brick: i, Dir: uint8(p.ways(i, there)[0])})
			there, step = there.with(i), step.with(i)
		}
		x.View = uint8(p.view(step, there))
		steps = append(steps, x)
	}
	return steps
}

// areSteps tells whether steps have a form for n bricks.
func areSteps(steps []api.Step, most, n int) bool {
	var put set
	for _, x := range steps {
		if !within(len(x.Puts), 1, most) || !isDirection(int(x.View)) {
			return false
		}
		for _, p := range x.Puts {
			if !within(p.Brick, 0, n-1) || put.has(p.Brick) || !isDirection(int(p.Dir)) {
				return false
			}
			put = put.with(p.Brick)
		}
	}
	return put == firsts(n)
}

// Check returns an error unless steps can be done.
func Check(l []api.Kind, m api.Model, r api.Rest, most int, steps []api.Step) api.Errno {
	s, e := siteOf(l, m, r)
	if e != api.OK {
		return e
	}
	if !within(most, 1, api.MaxPuts) {
		return api.ErrArg
	}
	if !areSteps(steps, most, len(m.Bricks)) {
		return api.ErrSteps
	}
	return planOf(s).follow(steps)
}

// follow does steps, and returns the error at which it stops.
func (p plan) follow(steps []api.Step) (e api.Errno) {
	defer func() {
		if stop := recover(); stop != nil {
			// Nothing else than an error of a step is passed on here.
			e = stop.(api.Errno)
		}
	}()
	var there set
	for _, x := range steps {
		there = p.do(x, there)
	}
	return api.OK
}

// do returns the bricks that are there after a step. It panics with the error of the step if it has one.
func (p plan) do(x api.Step, there set) set {
	var step set
	for _, put := range x.Puts {
		there, step = p.put(put, there), step.with(put.Brick)
	}
	if p.view(step, there) != int(x.View) {
		panic(api.ErrView)
	}
	return there
}

// put returns the bricks that are there after one is put to its place. It panics with an error if it can't be.
func (p plan) put(x api.Put, there set) set {
	if !p.free(x.Brick, int(x.Dir), there) {
		panic(api.ErrWay)
	}
	there = there.with(x.Brick)
	if !p.holds(there) {
		panic(api.ErrFalls)
	}
	return there
}
