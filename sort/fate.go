package sort

import (
	"cmp"

	"studwork/api"
)

// Sort returns the fates of parts (P9.2).
func Sort(b api.Belt, l []api.Fed) ([]api.Fate, api.Errno) {
	if e := cmp.Or(CheckBelt(b), CheckFed(l)); e != api.OK {
		return nil, e
	}
	var fates []api.Fate
	for cluster := range clusters(l, b.Slow) {
		gate := sortedBy(b, cluster)
		for _, x := range cluster {
			fates = append(fates, fate(b, x, gate))
		}
	}
	return fates, api.OK
}

// fate returns the fate of a part that leaves a belt at a gate, or at the end.
func fate(b api.Belt, x api.Fed, gate int) api.Fate {
	f := api.Fate{Read: readAs(x.Readings), Bin: none, Tick: x.Tick + b.Length}
	if gate != none {
		f.Bin, f.Tick = b.Gates[gate].Bin, x.Tick+b.Gates[gate].At
	}
	return f
}

// Run returns the fates of parts, if a belt runs with swings (P9.2).
func Run(b api.Belt, l []api.Fed, swings []api.Swing) ([]api.Fate, api.Errno) {
	if e := cmp.Or(CheckBelt(b), CheckFed(l)); e != api.OK {
		return nil, e
	}
	byGate, ok := movesOf(b, swings)
	if !ok {
		return nil, api.ErrBad
	}
	var fates []api.Fate
	for _, x := range l {
		gate, ok := leave(b, x, byGate)
		if !ok {
			return nil, api.ErrMoving
		}
		fates = append(fates, fate(b, x, gate))
	}
	return fates, api.OK
}

// leave returns the gate at which a part leaves a belt, and false if it comes to one that is moving.
func leave(b api.Belt, x api.Fed, byGate []moves) (int, bool) {
	for i, g := range b.Gates {
		switch byGate[i].at(x.Tick+g.At, b.Slow) {
		case moving:
			return none, false
		case out:
			return i, true
		}
	}
	return none, true
}
