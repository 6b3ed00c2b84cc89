package compose

import (
	"iter"
	"math/bits"
)

// set is some full cells of a shape, by their numbers, as bits: there are as many of these as api.MaxFull.
type set uint16

// firsts returns the first n full cells.
func firsts(n int) set { return 1<<n - 1 }

func (s set) with(n int) set { return s | 1<<n }

func (s set) has(others set) bool { return others&^s == 0 }

func (s set) without(others set) set { return s &^ others }

// first returns the least number of a cell of a set that is not empty.
func (s set) first() int { return bits.TrailingZeros16(uint16(s)) }

// all yields the numbers of the cells of a set, in increasing order.
func (s set) all() iter.Seq[int] {
	return func(yield func(int) bool) {
		for left := s; left != 0; left &= left - 1 {
			if !yield(left.first()) {
				return
			}
		}
	}
}
