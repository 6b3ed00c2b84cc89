package sort

import "studwork/api"

// CheckFed returns ErrFed unless parts are fed parts (P9.1).
func CheckFed(l []api.Fed) api.Errno {
	if len(l) > api.MaxParts {
		return api.ErrFed
	}
	before := -1
	for _, x := range l {
		if !within(x.Tick, before+1, api.MaxTicks) || !within(x.Kind, 0, api.MaxKinds-1) || !areReadings(x.Readings) {
			return api.ErrFed
		}
		before = x.Tick
	}
	return api.OK
}

func areReadings(l []int) bool {
	return within(len(l), 1, api.MaxEyes) && areNumbers(l, len(l), none, api.MaxKinds-1)
}

// Read returns as what a part is read (P9.1).
func Read(readings []int) (int, api.Errno) {
	if !areReadings(readings) {
		return 0, api.ErrArg
	}
	return readAs(readings), api.OK
}

// readAs returns the kind that most readings say.
func readAs(readings []int) int {
	var says [api.MaxKinds]int
	for _, kind := range readings {
		if kind != none {
			says[kind]++
		}
	}
	return most(says[:])
}

// most returns the kind that most readings say, if so many of them say each kind.
func most(says []int) int {
	kind, top := none, 0
	for k, n := range says {
		if n > top {
			kind, top = k, n
		} else if n == top {
			kind = none
		}
	}
	return kind
}
