package hinge

import "studwork/api"

// start returns the pose of the panel 0.
func start() api.Pose { return api.Pose{P: 1, D: 1} }

// place returns where a place of a panel is, to be divided by the D of its pose.
func place(at api.Pose, s api.Spot) api.Spot {
	return api.Spot{X: at.P*s.X - at.Q*s.Y + at.X, Y: at.Q*s.X + at.P*s.Y + at.Y}
}

// swing returns the pose of the next panel, not in lowest terms. After three hinges D is at most 25 to the power of 3, and X and Y are at most 500 D.
func swing(at api.Pose, h api.Hinge, turn [3]int) api.Pose {
	p, q, r := turn[0], turn[1], turn[2]
	next := api.Pose{P: p*at.P - q*at.Q, Q: q*at.P + p*at.Q, D: r * at.D}
	a, b := place(at, h.A), place(next, h.B)
	next.X, next.Y = r*a.X-b.X, r*a.Y-b.Y
	return next
}

// lowest returns a pose in lowest terms.
func lowest(at api.Pose) api.Pose {
	by := divisor(at.P, at.Q, at.X, at.Y, at.D)
	return api.Pose{P: at.P / by, Q: at.Q / by, X: at.X / by, Y: at.Y / by, D: at.D / by}
}

// poses returns the poses of all panels of a linkage that is valid.
func (table turns) poses(l api.Linkage) []api.Pose {
	all := []api.Pose{start()}
	for i, h := range l.Hinges {
		all = append(all, lowest(swing(all[i], h, table[h.Angle])))
	}
	return all
}

// Poses returns the poses of all panels.
func Poses(l api.Linkage) ([]api.Pose, api.Errno) {
	if e := Check(l); e != api.OK {
		return nil, e
	}
	return angles().poses(l), api.OK
}

// placed is a panel where it is: its corners are to be divided by d.
type placed struct {
	corners []api.Spot
	d       int
}

// panels returns all panels of a linkage that is valid where they are.
func (table turns) panels(l api.Linkage) []placed {
	var all []placed
	for i, at := range table.poses(l) {
		var corners []api.Spot
		for _, c := range l.Panels[i] {
			corners = append(corners, place(at, c))
		}
		all = append(all, placed{corners, at.D})
	}
	return all
}

// Corners returns the corners of a panel, to be divided by a number.
func Corners(l api.Linkage, panel int) ([]api.Spot, int, api.Errno) {
	if e := Check(l); e != api.OK {
		return nil, 0, e
	}
	if !within(panel, 0, len(l.Panels)-1) {
		return nil, 0, api.ErrArg
	}
	p := angles().panels(l)[panel]
	return p.corners, p.d, api.OK
}
