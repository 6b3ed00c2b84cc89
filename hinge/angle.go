package hinge

import "studwork/api"

// turns is a table of all angles: P, Q and R of each.
type turns [api.Angles][3]int

// angles fills the table. The divisor keeps out what is another angle with a lesser R.
func angles() turns {
	var table turns
	n := 0
	for _, r := range [...]int{1, 5, 13, 17, 25} {
		for p := -r; p <= r; p++ {
			for q := -r; q <= r; q++ {
				if p*p+q*q == r*r && divisor(p, q, r) == 1 {
					table[n] = [3]int{p, q, r}
					n++
				}
			}
		}
	}
	return table
}

// Angle returns the angle with an index.
func Angle(n int) (p, q, r int, e api.Errno) {
	if !within(n, 0, api.Angles-1) {
		return 0, 0, 0, api.ErrArg
	}
	turn := angles()[n]
	return turn[0], turn[1], turn[2], api.OK
}
