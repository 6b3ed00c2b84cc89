package gear

import (
	"slices"

	"studwork/api"
)

// Free returns the number of independent motions.
func Free(t api.Train) (int, api.Errno) {
	if e := Check(t); e != api.OK {
		return 0, e
	}
	return t.Shafts - len(solve(t, 0).pivots), api.OK
}

// Ratio returns the ratio of a shaft to another one, or why there is none.
func Ratio(t api.Train, in, out int) (num, den int, p api.GearProof, e api.Errno) {
	if e := checkShafts(t, in, out); e != api.OK {
		return 0, 0, api.GearProof{}, e
	}
	s := solve(t, in)
	if s.jams(in) {
		return 0, 0, api.GearProof{Factors: s.factors(in)}, api.ErrJam
	}
	p.Motion = plain(s.motion(in), in)
	if p.Slip = s.slip(in, out); p.Slip != nil {
		return 0, 0, p, api.ErrLoose
	}
	p.Factors = make([]int, len(t.Meshes))
	if in != out {
		p.Factors = s.factors(out)
	}
	by := divisor(p.Motion[in], p.Motion[out])
	return p.Motion[out] / by, p.Motion[in] / by, p, api.OK
}

// factors returns the factors of the meshes whose sum is the row of a pivot, with a number above 0 for it.
func (s solution) factors(pivot int) []int {
	r := s.rows[slices.Index(s.pivots, pivot)]
	if s.scale < 0 {
		r.meshes = negative(r.meshes)
	}
	return lowest(r.meshes)
}

// slip returns a motion in which in, which is no pivot, has 0 turns, and out has a number above 0; or nil, if there is none.
func (s solution) slip(in, out int) []int {
	for shaft := range s.shafts {
		if shaft == in || slices.Contains(s.pivots, shaft) {
			continue
		}
		if l := s.motion(shaft); l[out] != 0 {
			return plain(l, out)
		}
	}
	return nil
}

// plain returns a motion in lowest terms with a number above 0 for a shaft that turns in it.
func plain(motion []int, shaft int) []int {
	if motion[shaft] < 0 {
		motion = negative(motion)
	}
	return lowest(motion)
}

func negative(l []int) []int {
	var all []int
	for _, n := range l {
		all = append(all, -n)
	}
	return all
}

// lowest returns numbers, of which not all are 0, without their common divisor.
func lowest(l []int) []int {
	by := 0
	for _, n := range l {
		by = divisor(by, n)
	}
	var all []int
	for _, n := range l {
		all = append(all, n/by)
	}
	return all
}
