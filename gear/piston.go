package gear

import "studwork/api"

const (
	maxHeight = 100  // of an entry of Lift, and of Open
	maxPeriod = 5000 // of pistons together
)

// CheckPiston returns ErrArg unless a piston is valid.
func CheckPiston(p api.Piston) api.Errno {
	if !within(len(p.Lift), 1, api.MaxLift) || !within(p.Open, 0, maxHeight) || !within(p.Stroke, 1, api.MaxStroke) {
		return api.ErrArg
	}
	for _, n := range p.Lift {
		if !within(n, 0, maxHeight) {
			return api.ErrArg
		}
	}
	return api.OK
}

// move returns the place of a piston at a tick from its place before it.
func move(p api.Piston, tick, place int) int {
	if p.Lift[(tick-1)%len(p.Lift)] >= p.Open {
		return min(place+1, p.Stroke)
	}
	return max(place-1, 0)
}

// Places returns the places of a piston.
func Places(p api.Piston, ticks int) ([]int, api.Errno) {
	if e := CheckPiston(p); e != api.OK {
		return nil, e
	}
	if !within(ticks, 0, api.MaxPulses) {
		return nil, api.ErrArg
	}
	places := []int{0}
	for tick := 1; tick <= ticks; tick++ {
		places = append(places, move(p, tick, places[tick-1]))
	}
	return places, api.OK
}

// Cycle returns from when on some pistons repeat what they do, and the period.
func Cycle(l []api.Piston) (start, length int, e api.Errno) {
	if !within(len(l), 1, api.MaxPistons) {
		return 0, 0, api.ErrMany
	}
	length = 1
	for _, p := range l {
		if e := CheckPiston(p); e != api.OK {
			return 0, 0, e
		}
		length *= len(p.Lift) / divisor(length, len(p.Lift))
	}
	if length > maxPeriod {
		return 0, 0, api.ErrArg
	}
	for _, p := range l {
		start = max(start, settled(p, length))
	}
	return start, length, api.OK
}

// settled returns the first multiple of a period at which a piston's place is the one of a period later. Places at these ticks only grow from 0 on, for of two places the higher one stays at least as high as the other: so it ends.
func settled(p api.Piston, period int) int {
	from := 0
	for start := 0; ; start += period {
		place := from
		for tick := 1; tick <= period; tick++ {
			place = move(p, tick, place)
		}
		if place == from {
			return start
		}
		from = place
	}
}
