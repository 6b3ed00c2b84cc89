package sort

import (
	"cmp"
	"slices"

	"studwork/api"
)

// Swings returns the swings of a belt for parts (P9.2).
func Swings(b api.Belt, l []api.Fed) ([]api.Swing, api.Errno) {
	if e := cmp.Or(CheckBelt(b), CheckFed(l)); e != api.OK {
		return nil, e
	}
	var swings []api.Swing
	for cluster := range clusters(l, b.Slow) {
		gate := sortedBy(b, cluster)
		if gate == none {
			continue
		}
		first, last := ends(cluster)
		at := b.Gates[gate].At
		swings = insert(swings, api.Swing{Tick: first.Tick + at - b.Slow, Gate: gate, Out: true}, compareSwings)
		swings = insert(swings, api.Swing{Tick: last.Tick + at + 1, Gate: gate}, compareSwings)
	}
	return swings, api.OK
}

func compareSwings(a, b api.Swing) int {
	return cmp.Or(cmp.Compare(a.Tick, b.Tick), cmp.Compare(a.Gate, b.Gate))
}

// moves is the ticks at which a gate begins to move, in order: out, back, out, and so on.
type moves []int

// movesOf returns the moves of each gate of a belt, and false unless a list of swings is valid for it.
func movesOf(b api.Belt, swings []api.Swing) ([]moves, bool) {
	l := make([]moves, len(b.Gates))
	for i, s := range swings {
		if !within(s.Gate, 0, len(l)-1) || i > 0 && compareSwings(swings[i-1], s) > 0 {
			return nil, false
		}
		gate := &l[s.Gate]
		if s.Out != gate.nextOut() || !gate.ready(s.Tick, b.Slow) {
			return nil, false
		}
		*gate = append(*gate, s.Tick)
	}
	return l, true
}

// nextOut tells whether the next move after all of some is one out.
func (m moves) nextOut() bool { return len(m)%2 == 0 }

// ready tells whether a gate may begin to move at a tick after its moves.
func (m moves) ready(tick, slow int) bool {
	if len(m) == 0 {
		return true
	}
	last := m[len(m)-1]
	// Ticks may be so far apart that only an unsigned number holds the difference.
	return tick > last && uint(tick)-uint(last) >= uint(slow)
}

// state is what a gate does at a tick.
type state uint8

const (
	back state = iota
	out
	moving
)

// at returns what a gate does at a tick of a part, which is small enough for all sums with it.
func (m moves) at(tick, slow int) state {
	begun, _ := slices.BinarySearch(m, tick+1)
	switch {
	case begun == 0:
		return back
	case m[begun-1] > tick-slow:
		return moving
	case m[:begun].nextOut():
		return back
	}
	return out
}
