package gear

import "math/bits"

// cross returns (a d - b c) / by, for which the division has to leave no rest, and the quotient has to be an int. The products take two words: the numbers in rows have up to 48 bits.
func cross(a, d, b, c, by int) int {
	high, low := product(a, d)
	h, l := product(b, c)
	low, borrow := bits.Sub64(low, l, 0)
	high, _ = bits.Sub64(high, h, borrow)
	sign := 1
	if int64(high) < 0 {
		low, borrow = bits.Sub64(0, low, 0)
		high, _ = bits.Sub64(0, high, borrow)
		sign = -1
	}
	if by < 0 {
		by, sign = -by, -sign
	}
	quotient, _ := bits.Div64(high, low, uint64(by))
	return sign * int(quotient)
}

// product returns the two words of the product of two numbers, as the complement of two if it is below 0.
func product(a, b int) (high, low uint64) {
	high, low = bits.Mul64(uint64(a), uint64(b))
	if a < 0 {
		high -= uint64(b)
	}
	if b < 0 {
		high -= uint64(a)
	}
	return high, low
}
