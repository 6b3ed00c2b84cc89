package studio_test

import (
	"fmt"
	"slices"
	"strings"
	"testing"

	"studwork/api"
)

const walled = "sub wall\nbrick 1 1 0 0 1 3\nbrick 1 1 0 1 1 3\nend\n"

func TestP10_2Compose(t *testing.T) {
	wantAfter(t, withDocs(), lay("wall", wall(), plates(), 0, 1), withDocs(walled), api.Done{})
	wantAfter(t, withDocs(pair, air, empty), lay("wall", wall(), plates(), 0, 1), withDocs(pair, air, empty, walled), api.Done{N: 3})
	// One plate of two cells, one cell that is full in the other layer, and its own colour.
	s := api.Shape{W: 1, D: 2, H: 2, Cells: []uint8{7, 7, 0, 9}}
	wantAfter(t, withDocs(), lay("a-1", s, plates(), 0, 1), withDocs("sub a-1\nbrick 1 0 0 0 0 7\nbrick 0 0 1 1 0 9\nend\n"), api.Done{})
	row := api.Shape{W: 1, D: 1, H: 4, Cells: []uint8{1, 2, 15, 4}}
	wantAfter(t, withDocs(), lay("abcdefghijkl", row, plates(), 0, 1),
		withDocs("sub abcdefghijkl\nbrick 0 0 0 0 0 1\nbrick 0 0 0 1 0 2\nbrick 0 0 0 2 0 15\nbrick 0 0 0 3 0 4\nend\n"), api.Done{})
}

// Uses say as which kind a plate is laid: any with the same cells, knobs and weight.
func TestP10_2ComposeUses(t *testing.T) {
	s := withDocs()
	s.Kinds = slices.Insert(kinds(), 0, plated(1, 2, 2), plated(1, 1, 2))
	for _, use := range []int{0, 3} {
		after := s
		after.Docs = docsOf(strings.ReplaceAll(walled, "brick 1", fmt.Sprint("brick ", use)))
		wantAfter(t, s, lay("wall", wall(), plates(), 2, use), after, api.Done{})
	}
	// The kind that is used for a plate that is not laid is any.
	for use := range s.Kinds {
		after := s
		after.Docs = docsOf(strings.ReplaceAll(walled, "brick 1", "brick 0"))
		wantAfter(t, s, lay("wall", wall(), plates(), use, 0), after, api.Done{})
	}
	// Two plates of one size, in two colours, are of one kind.
	l := list(api.Plate{W: 1, D: 2, N: 9, Color: 3}, api.Plate{W: 1, D: 2, N: 9, Color: 5})
	both := wall()
	both.Cells = []uint8{3, 3, 5, 5}
	wantAfter(t, withDocs(), lay("wall", both, l, 1, 1), withDocs("sub wall\nbrick 1 1 0 0 1 3\nbrick 1 1 0 1 1 5\nend\n"), api.Done{})
}

func TestP10_2ComposeErrors(t *testing.T) {
	long, alone := api.Shape{W: 2, D: 1, H: 2}, api.Shape{W: 2, D: 1, H: 1, Cells: []uint8{1, 2}}
	great := append(plates(), api.Plate{W: 4, D: 7})
	knobless, light := kinds(), kinds()
	knobless[1].Knobs = knobless[1].Knobs[1:]
	light[1].Weight = 1
	for _, s := range []api.Studio{withDocs(), withDocs(pair, pair, pair, pair), paid(withStock(items(0, 30, 9)), 1<<40)} {
		for _, name := range []string{"", "Wall", "1a", "a b", "abcdefghijklm", "a\n", "wäll"} {
			wantFails(t, s, lay(name, wall(), plates(), 0, 1), api.ErrName)
			wantFails(t, s, lay(name, long, nil, 9), api.ErrName)
		}
		for _, uses := range [][]int{nil, {0}, {0, 1, 1}, {0, 4}, {0, -1}, {-1, 1}} {
			wantFails(t, s, lay("wall", wall(), plates(), uses...), api.ErrArg)
			wantFails(t, s, lay("wall", long, plates(), uses...), api.ErrArg)
		}
		for _, n := range extremes {
			wantFails(t, s, lay("wall", wall(), plates(), 0, n), api.ErrArg)
			wantFails(t, s, lay("wall", api.Shape{W: n, D: n, H: 1}, plates(), 0, 1), api.ErrShape)
			wantFails(t, s, lay("wall", wall(), list(api.Plate{W: n, D: n, N: 1}), 0), api.ErrPlate)
		}
		wantFails(t, s, lay("wall", long, plates(), 0, 1), api.ErrShape)
		wantFails(t, s, lay("wall", long, nil), api.ErrShape)
		wantFails(t, s, lay("wall", wall(), nil), api.ErrPlate)
		wantFails(t, s, lay("wall", wall(), list(plates()[1], plates()[0]), 0, 1), api.ErrPlate)
		wantFails(t, s, lay("wall", alone, plates(), 0, 1), api.ErrNone)
		wantFails(t, s, lay("wall", alone, great, 0, 1, 2), api.ErrNone)
		wantFails(t, s, lay("wall", wall(), great, 0, 1, 2), api.ErrKind)
		for _, use := range []int{0, 2, 3} {
			wantFails(t, s, lay("wall", wall(), plates(), 0, use), api.ErrKind)
		}
		for _, l := range [][]api.Kind{knobless, light} {
			s.Kinds = l
			s.Docs = s.Docs[:0]
			wantFails(t, s, lay("wall", wall(), plates(), 0, 1), api.ErrKind)
		}
	}
	wantFails(t, api.Studio{}, lay("wall", wall(), plates(), 0, 1), api.ErrArg)
	wantFails(t, withDocs(pair, pair, pair, pair), lay("wall", wall(), plates(), 0, 1), api.ErrFull)
}
