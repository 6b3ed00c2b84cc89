package lattice

import (
	"cmp"
	"slices"

	"studwork/api"
)

// meet tells whether two knobs of different bricks meet.
func meet(a, b api.Knob) bool {
	return facing(a) == b.At && a.Dir^1 == b.Dir && fit(a.Sort, b.Sort)
}

func links(all []body) []api.Link {
	in := owners(all)
	var found []api.Link
	for a := range all {
		for i, k := range all[a].knobs {
			for _, b := range in[facing(k)] {
				if b > a {
					found = append(found, linksOf(k, all[b].knobs, api.Link{A: a, B: b, Knob: i})...)
				}
			}
		}
	}
	slices.SortFunc(found, func(x, y api.Link) int {
		return cmp.Or(cmp.Compare(x.A, y.A), cmp.Compare(x.B, y.B), cmp.Compare(x.Knob, y.Knob))
	})
	return found
}

// linksOf returns the links of a knob with those of another brick; link is what is known of them.
func linksOf(k api.Knob, others []api.Knob, link api.Link) []api.Link {
	var found []api.Link
	for j, o := range others {
		if meet(k, o) {
			link.Other, link.Sort = j, min(k.Sort, o.Sort)
			found = append(found, link)
		}
	}
	return found
}

// joints returns the joints of a model: links of the same bricks follow each other.
func joints(all []body) []api.Joint {
	l := links(all)
	var found []api.Joint
	for from := 0; from < len(l); {
		to := from + 1
		for to < len(l) && l[to].A == l[from].A && l[to].B == l[from].B {
			to++
		}
		found = append(found, jointOf(all, l[from:to]))
		from = to
	}
	return found
}

// jointOf returns the joint of two bricks, from all of their links.
func jointOf(all []body, l []api.Link) api.Joint {
	j := api.Joint{A: l[0].A, B: l[0].B, Axis: axisOf(all[l[0].A].knobs, l)}
	j.Slides = j.Axis != 0
	for _, k := range l {
		j.Strength += strength(k.Sort)
		j.Slides = j.Slides && k.Sort == bar
	}
	return j
}

func strength(sort uint8) int {
	switch sort {
	case stud:
		return 2
	case bar:
		return 3
	case pin:
		return 5
	}
	return 0
}

// axisOf returns the axis of links, or 0. The knobs of the first brick are enough: what they meet is 1 further along their direction, and so on the same line.
func axisOf(knobs []api.Knob, l []api.Link) uint8 {
	first := knobs[l[0].Knob]
	for _, k := range l {
		n := knobs[k.Knob]
		if n.Dir/2 != first.Dir/2 || across(n) != across(first) {
			return 0
		}
	}
	return first.Dir/2 + 1
}

// across returns the cell of a knob without the coordinate along its direction, which is the same for all knobs on one line.
func across(k api.Knob) api.Cell {
	c := k.At
	switch k.Dir / 2 {
	case 0:
		c.X = 0
	case 1:
		c.Y = 0
	case 2:
		c.Z = 0
	}
	return c
}

// Links returns the pairs of knobs that meet.
func Links(l []api.Kind, m api.Model) ([]api.Link, api.Errno) {
	all, e := validBodies(l, m)
	if e != api.OK {
		return nil, e
	}
	return links(all), api.OK
}

// Joints returns the joints of a model.
func Joints(l []api.Kind, m api.Model) ([]api.Joint, api.Errno) {
	all, e := validBodies(l, m)
	if e != api.OK {
		return nil, e
	}
	return joints(all), api.OK
}

// Groups returns for each brick the least brick of its group.
func Groups(l []api.Kind, m api.Model) ([]int, api.Errno) {
	all, e := validBodies(l, m)
	if e != api.OK {
		return nil, e
	}
	return groups(len(all), joints(all)), api.OK
}

// groups visits the bricks in increasing order, so that the first one of a group is its least.
func groups(n int, l []api.Joint) []int {
	const none = -1
	least := make([]int, n)
	for i := range least {
		least[i] = none
	}
	var visit func(brick, first int)
	visit = func(brick, first int) {
		if least[brick] != none {
			return
		}
		least[brick] = first
		for _, j := range l {
			if j.A == brick {
				visit(j.B, first)
			}
			if j.B == brick {
				visit(j.A, first)
			}
		}
	}
	for i := range n {
		visit(i, i)
	}
	return least
}
