package hinge

import "studwork/api"

// gap returns how far the place a of the last panel, with its pose, is from the place b of the panel 0, as numbers to be divided by the D of the pose.
func gap(last api.Pose, a, b api.Spot) [2]int {
	at := place(last, a)
	return [2]int{at.X - b.X*last.D, at.Y - b.Y*last.D}
}

// checkPlaces returns ErrArg unless two places may be named.
func checkPlaces(l api.Linkage, a, b api.Spot) api.Errno {
	if e := Check(l); e != api.OK {
		return e
	}
	if !areSpots(a, b) {
		return api.ErrArg
	}
	return api.OK
}

// Gap returns how far a place of the last panel is from one of the first.
func Gap(l api.Linkage, a, b api.Spot) (x, y, d int, e api.Errno) {
	if e := checkPlaces(l, a, b); e != api.OK {
		return 0, 0, 0, e
	}
	last := angles().poses(l)[len(l.Hinges)]
	far := gap(last, a, b)
	return far[0], far[1], last.D, api.OK
}

// Close returns the first angles for which a gap is 0.
func Close(l api.Linkage, a, b api.Spot) ([]int, api.Errno) {
	if e := checkPlaces(l, a, b); e != api.OK {
		return nil, e
	}
	table := angles()
	var chosen []int
	var try func(api.Pose) bool
	try = func(at api.Pose) bool {
		i := len(chosen)
		if i == len(l.Hinges) {
			return gap(at, a, b) == [2]int{}
		}
		for n, turn := range table {
			chosen = append(chosen, n)
			if try(swing(at, l.Hinges[i], turn)) {
				return true
			}
			chosen = chosen[:i]
		}
		return false
	}
	if !try(start()) {
		return nil, api.ErrOpen
	}
	return chosen, api.OK
}
