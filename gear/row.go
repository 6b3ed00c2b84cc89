package gear

import (
	"slices"

	"studwork/api"
)

// line is an equation of the numbers of turns: its factors of the shafts.
type line struct{ shafts []int }

// row is a line that is a sum of the equations of the meshes, beside their factors in that sum.
type row struct {
	line
	meshes []int
}

// solution is the rows of a train, solved: the row at the index i has the number scale for the shaft pivots[i], for which all other rows have 0; the rows that have no pivot are 0 for all shafts.
type solution struct {
	shafts int
	rows   []row
	pivots []int
	scale  int
}

// rowsOf returns the equations of a train as rows.
func rowsOf(t api.Train) []row {
	var rows []row
	for i, m := range t.Meshes {
		own := make([]int, len(t.Meshes))
		own[i] = 1
		rows = append(rows, row{line{factors(t, m)}, own})
	}
	return rows
}

// solve solves the equations of a train, with one shaft last: it is a pivot only if it is jammed, for its row is 0 for all other shafts then.
//
// All numbers in the rows are determinants of parts of the equations, for which the divisions leave no rest, and which by Hadamard's inequality are at most 59 to the power of 8.
func solve(t api.Train, last int) solution {
	s := solution{shafts: t.Shafts, rows: rowsOf(t), scale: 1}
columns:
	for i := range t.Shafts {
		shaft := (last + 1 + i) % t.Shafts
		for at := len(s.pivots); at < len(s.rows); at++ {
			if s.rows[at].shafts[shaft] != 0 {
				s.take(at, shaft)
				continue columns
			}
		}
	}
	return s
}

// take makes the row at an index the one of the next pivot, and frees the others of that shaft.
func (s *solution) take(at, shaft int) {
	next := len(s.pivots)
	r := s.rows[at]
	copy(s.rows[next+1:at+1], s.rows[next:at])
	s.rows[next] = r
	pivot := r.shafts[shaft]
	for i, other := range s.rows {
		if i != next {
			other.free(r, pivot, other.shafts[shaft], s.scale)
		}
	}
	s.pivots = append(s.pivots, shaft)
	s.scale = pivot
}

// free makes a row the fraction (pivot * row - factor * other) / scale, in its own memory.
func (r row) free(other row, pivot, factor, scale int) {
	for i, n := range r.shafts {
		r.shafts[i] = cross(pivot, n, factor, other.shafts[i], scale)
	}
	for i, n := range r.meshes {
		r.meshes[i] = cross(pivot, n, factor, other.meshes[i], scale)
	}
}

// jams tells whether the shaft that comes last is jammed.
func (s solution) jams(last int) bool { return slices.Contains(s.pivots, last) }

// motion returns the motion in which only one of the shafts turns that are no pivots.
func (s solution) motion(shaft int) []int {
	l := make([]int, s.shafts)
	l[shaft] = s.scale
	for i, p := range s.pivots {
		l[p] = -s.rows[i].shafts[shaft]
	}
	return l
}
