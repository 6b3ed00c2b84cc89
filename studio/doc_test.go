package studio_test

import (
	"strings"
	"testing"

	"studwork/api"
)

// withDocs returns a studio with the kinds and prices of the tests, and documents.
func withDocs(l ...string) api.Studio {
	return api.Studio{Kinds: kinds(), Docs: docsOf(l...), Prices: prices()}
}

func TestP10_2Load(t *testing.T) {
	wantAfter(t, withDocs(), load(pair), withDocs(pair), api.Done{})
	wantAfter(t, withDocs(pair), load(pair), withDocs(pair, pair), api.Done{N: 1})
	wantAfter(t, withDocs(pair, air, empty), load(stairs), withDocs(pair, air, empty, stairs), api.Done{N: 3})
	wantAfter(t, withDocs(), load(spare), withDocs(spare), api.Done{})
	wantAfter(t, withDocs(), load(tower(40)), withDocs(tower(40)), api.Done{})
	wantAfter(t, api.Studio{}, load(empty), api.Studio{Docs: docsOf(empty)}, api.Done{})
	wantAfter(t, withDocs(), load("# a remark\r\n\tsub  a \r\nbrick 0 0 0 0 0 3\nbrick 1 0 0 1 0 3\nend"), withDocs(pair), api.Done{})
}

func TestP10_2LoadErrors(t *testing.T) {
	for _, s := range []api.Studio{withDocs(), withDocs(pair), withDocs(pair, pair, pair, pair), some()} {
		for _, x := range []struct {
			text string
			done api.Done
		}{
			{"", api.Done{E: api.ErrForm, N: 1}},
			{"sub a", api.Done{E: api.ErrForm, N: 1}},
			{"sub a\n\nend\nbrick 0 0 0 0 0 3\n", api.Done{E: api.ErrForm, N: 4}},
			{"sub a\nbrick 16 0 0 0 0 3\nend", api.Done{E: api.ErrForm, N: 2}},
			{"sub a\nend\nsub b\nuse a 0 0 0 0 3\nend", api.Done{E: api.ErrName, N: 4}},
			{"sub a\nend\n# again\nsub a\nend", api.Done{E: api.ErrName, N: 4}},
			{strings.Repeat("sub a\nend\n", 2001), api.Done{E: api.ErrMany}},
			{"sub a\n" + strings.Repeat("brick 0 0 0 0 0 3\n", 21) + "end", api.Done{E: api.ErrMany}},
		} {
			wantKept(t, s, load(x.text), x.done)
		}
	}
	s := withDocs(pair)
	wantFails(t, s, load(tower(41)), api.ErrMany)
	wantFails(t, s, load(far), api.ErrBrick)
	wantFails(t, s, load(unknown), api.ErrBrick)
	wantFails(t, s, load(overlap), api.ErrOverlap)
	wantFails(t, api.Studio{}, load(pair), api.ErrBrick)
	// A brick of a kind that there is not is told before an overlap.
	wantFails(t, s, load("sub a\nbrick 0 0 0 0 0 3\nbrick 1 0 0 0 0 3\nbrick 4 9 0 0 0 3\nend"), api.ErrBrick)
	full := withDocs(pair, pair, pair, pair)
	for _, text := range []string{pair, tower(41), far, unknown, overlap} {
		wantFails(t, full, load(text), api.ErrFull)
	}
}

func TestP10_2Print(t *testing.T) {
	s := withDocs(pair, stairs, empty)
	wantKept(t, s, show(0), api.Done{Text: pair})
	wantKept(t, s, show(1), api.Done{Text: stairs})
	wantKept(t, s, show(2), api.Done{Text: empty})
	_, done := do(t, withDocs(), load("\tsub  a\r\n#\nbrick 0 0 0 0 0 3\n brick 1 0 0 1 0 3\nend"))
	want(t, "load", done, api.Done{})
	wantAfter(t, withDocs(), load(spare), withDocs(spare), api.Done{})
	wantKept(t, withDocs(spare), show(0), api.Done{Text: spare})
}

// There is no document of the job.
func TestP10_2NoDoc(t *testing.T) {
	for _, s := range []api.Studio{withDocs(), withDocs(pair), withDocs(motley(31), pair, pair), some()} {
		for _, n := range append(extremes, len(s.Docs), len(s.Docs)+1, 4, 5) {
			for _, j := range []api.Job{show(n), inline(n, 1), inline(n, 0), drop(n), stands(n), guide(n, 1), guide(n, 99), build(n), buy(n)} {
				wantFails(t, s, j, api.ErrNone)
			}
		}
	}
}

func TestP10_2Inline(t *testing.T) {
	const flat = "sub top\nbrick 1 0 0 -7 0 3\nuse dot 0 0 -6 0 4\nbrick 1 3 0 -7 1 0\nuse dot 3 0 -6 1 4\nend\nsub dot\nbrick 0 0 0 0 2 0\nend\n"
	const short = "sub top\nuse step 0 0 -7 0 3\nuse step 3 0 -7 1 0\nend\nsub step\nbrick 1 0 0 0 0 0\nbrick 0 0 0 1 2 4\nend\n"
	const plain = "sub top\nbrick 1 0 0 -7 0 3\nbrick 0 0 0 -6 2 4\nbrick 1 3 0 -7 1 0\nbrick 0 3 0 -6 3 4\nend\n"
	s := withDocs(air, stairs, pair)
	wantAfter(t, s, inline(1, 1), withDocs(air, flat, pair), api.Done{N: 2})
	wantAfter(t, s, inline(1, 2), withDocs(air, short, pair), api.Done{N: 2})
	wantAfter(t, withDocs(air, flat, pair), inline(1, 1), withDocs(air, plain, pair), api.Done{N: 1})
	wantAfter(t, withDocs(short), inline(0, 1), withDocs(plain), api.Done{N: 1})
	wantAfter(t, withDocs(pair, spare), inline(1, 1), withDocs(pair, "sub a\nbrick 0 0 0 0 0 3\nend\nsub c\nbrick 0 1 0 0 0 0\nend\n"), api.Done{N: 2})
}

func TestP10_2InlineErrors(t *testing.T) {
	s := withDocs(stairs, wide(), spare, pair)
	for _, m := range append(extremes, 0, 3) {
		wantFails(t, s, inline(0, m), api.ErrArg)
	}
	wantFails(t, s, inline(3, 1), api.ErrArg)
	wantFails(t, s, inline(1, 1), api.ErrMany)
	wantFails(t, s, inline(2, 2), api.ErrBrick)
}

func TestP10_2Drop(t *testing.T) {
	s := withDocs(pair, air, empty, stairs)
	wantAfter(t, s, drop(0), withDocs(air, empty, stairs), api.Done{N: 3})
	wantAfter(t, s, drop(1), withDocs(pair, empty, stairs), api.Done{N: 3})
	wantAfter(t, s, drop(3), withDocs(pair, air, empty), api.Done{N: 3})
	wantAfter(t, withDocs(pair), drop(0), withDocs(), api.Done{})
}

func TestP10_2Stand(t *testing.T) {
	s := withDocs(pair, air, empty, heavy)
	wantKept(t, s, stands(0), api.Done{})
	wantKept(t, s, stands(1), api.Done{List: list(1, 2)})
	wantKept(t, s, stands(2), api.Done{})
	// The table is at the least Z of a cell, be it of the last brick, above or below 0: all stands but one brick.
	deep := "sub a\nuse b 0 0 -1000 1 0\nend\nsub b\nbrick 0 0 0 2 0 3\nbrick 0 0 0 1 0 3\nbrick 0 5 5 1 0 3\nbrick 2 1 0 0 0 3\nbrick 1 0 0 0 0 3\nend\n"
	wantKept(t, withDocs(deep), stands(0), api.Done{List: list(2)})
	wantKept(t, withDocs(strings.ReplaceAll(deep, "-1000", "900")), stands(0), api.Done{List: list(2)})
	// A brick that is turned goes below its place: its other cell is on the table.
	wantKept(t, withDocs("sub a\nbrick 1 0 0 7 4 3\nbrick 1 5 0 7 12 3\nend\n"), stands(0), api.Done{List: list(0)})
	wantKept(t, withDocs("sub a\nbrick 1 0 0 7 12 3\nbrick 0 5 0 7 0 3\nbrick 0 6 0 6 0 3\nend\n"), stands(0), api.Done{List: list(1)})
	// A long brick hangs on the knobs of one that is too weak for it.
	wantKept(t, s, stands(3), api.Done{List: list(3)})
}

func TestP10_2Guide(t *testing.T) {
	first := api.Step{Puts: []api.Put{{Brick: 0, Dir: 0}}, View: 0}
	next := api.Step{Puts: []api.Put{{Brick: 1, Dir: 5}}, View: 0}
	both := api.Step{Puts: []api.Put{{Brick: 0, Dir: 0}, {Brick: 1, Dir: 5}}, View: 0}
	s := withDocs(pair, empty, tower(10), "sub a\nbrick 0 0 0 -4 0 3\nbrick 0 0 0 -5 0 3\nend\n")
	wantKept(t, s, guide(0, 1), api.Done{N: 2, Steps: list(first, next)})
	wantKept(t, s, guide(0, 2), api.Done{N: 1, Steps: list(both)})
	wantKept(t, s, guide(0, 8), api.Done{N: 1, Steps: list(both)})
	wantKept(t, s, guide(1, 1), api.Done{})
	_, done := do(t, s, guide(2, 3))
	if done.E != api.OK || done.N != 4 || len(done.Steps) != 4 || len(done.Steps[3].Puts) != 1 {
		t.Error(done)
	}
	first.Puts[0].Brick, next.Puts[0].Brick = 1, 0
	wantKept(t, s, guide(3, 1), api.Done{N: 2, Steps: list(first, next)})
}

func TestP10_2GuideErrors(t *testing.T) {
	s := withDocs(pair, tower(11), air, empty)
	for _, most := range append(extremes, 0, 9) {
		wantFails(t, s, guide(0, most), api.ErrArg)
		wantFails(t, s, guide(1, most), api.ErrMany)
		wantFails(t, s, guide(2, most), api.ErrArg)
		wantFails(t, s, guide(3, most), api.ErrArg)
	}
	wantFails(t, s, guide(1, 1), api.ErrMany)
	wantFails(t, s, guide(2, 1), api.ErrNone)
	wantFails(t, withDocs(heavy), guide(0, 8), api.ErrNone)
}
