package steps

import (
	"iter"
	"math/bits"
)

// set is some bricks of a model, as bits: there are more of these than api.MaxBricks.
type set uint64

// setOf returns a list as a set, and false unless it has indices of n bricks, in increasing order, none of them twice.
func setOf(l []int, n int) (set, bool) {
	var s set
	last := -1
	for _, i := range l {
		if !within(i, last+1, n-1) {
			return 0, false
		}
		s, last = s.with(i), i
	}
	return s, true
}

// firsts returns the first n bricks.
func firsts(n int) set { return 1<<n - 1 }

func (s set) has(brick int) bool { return s>>brick&1 == 1 }

func (s set) with(brick int) set { return s | 1<<brick }

func (s set) without(brick int) set { return s &^ (1 << brick) }

func (s set) size() int { return bits.OnesCount64(uint64(s)) }

// all yields the bricks of a set, in increasing order.
func (s set) all() iter.Seq[int] {
	return func(yield func(int) bool) {
		for left := s; left != 0; left &= left - 1 {
			if !yield(bits.TrailingZeros64(uint64(left))) {
				return
			}
		}
	}
}

func (s set) list() []int {
	var l []int
	for i := range s.all() {
		l = append(l, i)
	}
	return l
}
