package box

import (
	"iter"
	"math/bits"
)

// set is some plans or traders, as bits: there are at most 8 of each.
type set uint8

// firsts returns the first n.
func firsts(n int) set { return 1<<n - 1 }

func (s set) with(n int) set { return s | 1<<n }

func (s set) without(n int) set { return s &^ (1 << n) }

func (s set) has(n int) bool { return s>>n&1 == 1 }

// first returns the least one of a set that is not empty.
func (s set) first() int { return bits.TrailingZeros8(uint8(s)) }

// list returns what is in a set, in order.
func (s set) list() []int {
	var l []int
	for ; s != 0; s = s.without(s.first()) {
		l = append(l, s.first())
	}
	return l
}

// sets yields all sets of n things.
func sets(n int) iter.Seq[set] {
	return func(yield func(set) bool) {
		for i := range 1 << n {
			if !yield(set(i)) {
				return
			}
		}
	}
}
