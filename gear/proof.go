package gear

import "studwork/api"

// CheckRatio returns ErrProof unless a proof proves a ratio.
func CheckRatio(t api.Train, in, out, num, den int, p api.GearProof) api.Errno {
	if e := checkShafts(t, in, out); e != api.OK {
		return e
	}
	if len(p.Factors) != len(t.Meshes) || len(p.Slip) != 0 || !isPlain(num, den) {
		return api.ErrProof
	}
	if !inRange(p.Factors) || !isMotion(t, p.Motion) || p.Motion[in] <= 0 {
		return api.ErrProof
	}
	if !ties(total(t, p.Factors), in, out, num, den) {
		return api.ErrProof
	}
	return api.OK
}

// isPlain tells whether a fraction is in lowest terms, and its denominator above 0.
func isPlain(num, den int) bool { return den > 0 && divisor(den, num%den) == 1 }

// ties tells whether a sum of equations says that the ratio of out to in is num / den, which is in lowest terms.
func ties(sum []int, in, out, num, den int) bool {
	for shaft, n := range sum {
		if n != 0 && (shaft != in && shaft != out || in == out) {
			return false
		}
	}
	if in == out {
		return num == 1 && den == 1
	}
	times := sum[out] / den
	if times < 1 || sum[out]%den != 0 {
		return false
	}
	// A product with num might be too large.
	return sum[in]%times == 0 && sum[in]/times == -num
}

// CheckJam returns ErrProof unless a proof proves a jam.
func CheckJam(t api.Train, in int, p api.GearProof) api.Errno {
	if e := checkShafts(t, in); e != api.OK {
		return e
	}
	if len(p.Factors) != len(t.Meshes) || len(p.Motion) != 0 || len(p.Slip) != 0 || !inRange(p.Factors) {
		return api.ErrProof
	}
	for shaft, n := range total(t, p.Factors) {
		if shaft == in && n <= 0 || shaft != in && n != 0 {
			return api.ErrProof
		}
	}
	return api.OK
}

// CheckLoose returns ErrProof unless a proof proves that a shaft is loose.
func CheckLoose(t api.Train, in, out int, p api.GearProof) api.Errno {
	if e := checkShafts(t, in, out); e != api.OK {
		return e
	}
	if len(p.Factors) != 0 || !isMotion(t, p.Motion) || !isMotion(t, p.Slip) {
		return api.ErrProof
	}
	if p.Motion[in] <= 0 || p.Slip[in] != 0 || p.Slip[out] <= 0 {
		return api.ErrProof
	}
	return api.OK
}

// inRange tells whether a proof may have some numbers. Sums of 16 times 48 of them are still in the range of an int.
func inRange(l []int) bool {
	for _, n := range l {
		if !within(n, -1<<53, 1<<53) {
			return false
		}
	}
	return true
}

// total returns the sum of the equations of the meshes, each of them times its factor.
func total(t api.Train, by []int) []int {
	sum := make([]int, t.Shafts)
	for i, m := range t.Meshes {
		for shaft, n := range factors(t, m) {
			sum[shaft] += by[i] * n
		}
	}
	return sum
}

func isMotion(t api.Train, l []int) bool {
	if len(l) != t.Shafts || !inRange(l) {
		return false
	}
	for _, m := range t.Meshes {
		sum := 0
		for shaft, n := range factors(t, m) {
			sum += n * l[shaft]
		}
		if sum != 0 {
			return false
		}
	}
	return true
}
