package box

import (
	"slices"

	"studwork/api"
)

// CheckSwaps returns ErrArg unless a list of swaps is one (P8.2).
func CheckSwaps(l []api.Swap) api.Errno {
	if len(l) > api.MaxSwaps {
		return api.ErrArg
	}
	for _, s := range l {
		if !wanted(s).valid() || !substitute(s).valid() || wanted(s) == substitute(s) {
			return api.ErrArg
		}
	}
	return api.OK
}

func wanted(s api.Swap) part { return part{s.Kind, s.Color} }

func substitute(s api.Swap) part { return part{s.ByKind, s.ByColor} }

// fillers returns the parts that may fill a needed one, in order.
func fillers(need part, swaps []api.Swap) []part {
	l := []part{need}
	for _, s := range swaps {
		if wanted(s) == need {
			l = append(l, substitute(s))
		}
	}
	putInOrder(l, func(p part) part { return p })
	return slices.Compact(l)
}
