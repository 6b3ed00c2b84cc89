package box

import (
	"cmp"
	"slices"

	"studwork/api"
)

// part is a kind in a colour.
type part struct {
	kind  int
	color uint8
}

func itemPart(x api.Item) part { return part{x.Kind, x.Color} }

func pricePart(p api.Price) part { return part{p.Kind, p.Color} }

func (p part) valid() bool { return within(p.kind, 0, api.MaxKinds-1) && p.color <= api.MaxColor }

func compareParts(a, b part) int {
	return cmp.Or(cmp.Compare(a.kind, b.kind), cmp.Compare(a.color, b.color))
}

// inOrder tells whether the parts of a list are valid and in order, and no part is there twice.
func inOrder[T any](l []T, partOf func(T) part) bool {
	for i, x := range l {
		if !partOf(x).valid() || i > 0 && compareParts(partOf(l[i-1]), partOf(x)) >= 0 {
			return false
		}
	}
	return true
}

// putInOrder puts a list into the order of its parts.
func putInOrder[T any](l []T, partOf func(T) part) {
	slices.SortFunc(l, func(a, b T) int { return compareParts(partOf(a), partOf(b)) })
}
