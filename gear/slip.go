package gear

import "studwork/api"

// Slips returns the clutches that slip for a shaft.
func Slips(t api.Train, in int) ([]int, api.Errno) {
	if e := checkShafts(t, in); e != api.OK {
		return nil, e
	}
	var clutches []int
	for i, m := range t.Meshes {
		if m.Kind == api.MeshClutch {
			clutches = append(clutches, i)
		}
	}
	if solve(without(t, clutches), in).jams(in) {
		return nil, api.ErrNone
	}
	for n := range len(clutches) {
		if open, ok := choose(t, in, clutches, n); ok {
			return open, api.OK
		}
	}
	return clutches, api.OK
}

// choose returns the first set of n clutches without which a shaft is not jammed, and whether there is one, if there is none of fewer clutches.
func choose(t api.Train, in int, clutches []int, n int) ([]int, bool) {
	closed := without(t, clutches)
	var open []int
	var next func(int, int) bool
	next = func(i, pivots int) bool {
		if i == len(clutches) {
			return true
		}
		count := len(closed.Meshes)
		closed.Meshes = append(closed.Meshes, t.Meshes[clutches[i]])
		s := solve(closed, in)
		closed.Meshes = closed.Meshes[:count]
		// A clutch without which the motions are the same need not be open.
		if len(open) < n && len(s.pivots) > pivots {
			open = append(open, clutches[i])
			if next(i+1, pivots) {
				return true
			}
			open = open[:len(open)-1]
		}
		if s.jams(in) {
			return false
		}
		closed.Meshes = append(closed.Meshes, t.Meshes[clutches[i]])
		ok := next(i+1, len(s.pivots))
		closed.Meshes = closed.Meshes[:count]
		return ok
	}
	ok := next(0, len(solve(closed, in).pivots))
	return open, ok
}
