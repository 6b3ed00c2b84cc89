package hinge

import "studwork/api"

// Limits of a line between two panels. With numbers of corners of at most 500 * 25^3 all products are below 2^62.
const (
	maxSlope = 10_000_000
	maxLine  = 100_000_000_000_000
	maxParts = 20_000
)

// CheckApart returns ErrProof unless a proof is right for two panels.
func CheckApart(l api.Linkage, i, k int, p api.Apart) api.Errno {
	first, second, e := pair(l, i, k)
	if e != api.OK {
		return e
	}
	if p.Clear && isBetween(p, first, second) || !p.Clear && isInside(p, first, second) {
		return api.OK
	}
	return api.ErrProof
}

// isBetween tells whether a line is between two panels, the first one where it has less.
func isBetween(p api.Apart, first, second placed) bool {
	if len(p.Inside) != 0 || p.A == 0 && p.B == 0 {
		return false
	}
	if !within(p.A, -maxSlope, maxSlope) || !within(p.B, -maxSlope, maxSlope) || !within(p.C, -maxLine, maxLine) || !within(p.E, 1, maxParts) {
		return false
	}
	for _, c := range first.corners {
		if p.E*(p.A*c.X+p.B*c.Y) > p.C*first.d {
			return false
		}
	}
	for _, c := range second.corners {
		if p.E*(p.A*c.X+p.B*c.Y) < p.C*second.d {
			return false
		}
	}
	return true
}

// isInside tells whether for each edge of two panels a corner of the other one is to the left of it.
func isInside(p api.Apart, first, second placed) bool {
	n := len(first.corners)
	if [...]int{p.A, p.B, p.C, p.E} != [4]int{} || len(p.Inside) != n+len(second.corners) {
		return false
	}
	return areLeft(p.Inside[:n], first, second) && areLeft(p.Inside[n:], second, first)
}

// areLeft tells whether for each edge of a panel an index is one of a corner of another one to the left of it.
func areLeft(l []int, p, other placed) bool {
	for i, edge := range edges(p.corners) {
		if !within(l[i], 0, len(other.corners)-1) || !isLeft(edge, p.d, other.corners[l[i]], other.d) {
			return false
		}
	}
	return true
}
