package studio_test

import (
	"math/rand"
	"slices"
	"testing"

	"studwork/api"
	"studwork/studio"
)

// The chapter's examples, one after the other.
func TestP10_2Examples(t *testing.T) {
	step := func(brick int, dir uint8) api.Step {
		return api.Step{Puts: []api.Put{{Brick: brick, Dir: dir}}}
	}
	needs := list(item(0, 3, 1), item(1, 3, 1))
	jobs := []api.Job{
		load("sub a\nbrick 0 0 0 0 0 3\nbrick 1 0 0 1 0 3\nend\n"),
		stands(0), guide(0, 1), build(0), buy(0), build(0),
		load("sub a\nbrick 0 0 0 0 0 3\nbrick 1 0 0 0 0 3\nend\n"),
		load("sub a\nbrick 0 0 0 0 0 3\nbrick 2 0 0 1 0 3\nend\n"),
		load("sub a\n"),
		lay("wall", wall(), plates(), 0, 1),
		show(1),
	}
	dones := []api.Done{
		{}, {}, {N: 2, Steps: list(step(0, 0), step(1, 5))}, {E: api.ErrNone}, {N: 25, Items: needs}, {Items: needs},
		{E: api.ErrOverlap}, {E: api.ErrBrick}, {E: api.ErrForm, N: 1}, {N: 1}, {Text: walled},
	}
	s, all, e := studio.Run(few(), prices(), jobs)
	wantErr(t, "run", e, api.OK)
	want(t, "run", all, dones)
	want(t, "run", s, api.Studio{Kinds: few(), Docs: docsOf(pair, walled), Prices: prices(), Spent: 25})
}

func TestP10_2DoErrors(t *testing.T) {
	bad := some()
	bad.Spent = -1
	for _, x := range []struct {
		s api.Studio
		j api.Job
		e api.Errno
	}{
		{bad, show(0), api.ErrBad},
		{bad, api.Job{}, api.ErrBad},
		{some(), api.Job{}, api.ErrArg},
		{some(), api.Job{Kind: 11}, api.ErrArg},
		{some(), api.Job{Kind: 255}, api.ErrArg},
		{some(), api.Job{Kind: 2, M: 1}, api.ErrArg},
		{some(), api.Job{Kind: 1, N: 1, Text: pair}, api.ErrArg},
		{some(), api.Job{Kind: 7, Uses: list(0)}, api.ErrArg},
	} {
		s, done, e := studio.Do(x.s, x.j)
		wantErr(t, x.j, e, x.e)
		want(t, x.j, s, api.Studio{})
		want(t, x.j, done, api.Done{})
	}
	for _, l := range badKinds() {
		_, _, e := studio.Do(api.Studio{Kinds: l}, load(empty))
		wantErr(t, "kinds", e, api.ErrBad)
	}
}

func TestP10_2Run(t *testing.T) {
	s, all, e := studio.Run(nil, nil, nil)
	wantErr(t, "nothing", e, api.OK)
	want(t, "nothing", s, api.Studio{})
	want(t, "nothing", all, nil)
	s, all, e = studio.Run(kinds(), prices(), []api.Job{})
	wantErr(t, "no jobs", e, api.OK)
	want(t, "no jobs", s, withDocs())
	want(t, "no jobs", all, nil)
	// As many jobs as there may be, many of which fail.
	s, all, e = studio.Run(kinds(), prices(), slices.Repeat(list(load(pair), store(item(0, 3, 9))), 100))
	wantErr(t, "many jobs", e, api.OK)
	want(t, "many jobs", s, withStock(list(item(0, 3, 900)), pair, pair, pair, pair))
	if len(all) != 200 {
		t.Fatal(len(all))
	}
	for i := range 100 {
		loaded := api.Done{N: i}
		if i > 3 {
			loaded = api.Done{E: api.ErrFull}
		}
		want(t, i, all[2*i:2*i+2], list(loaded, api.Done{Items: list(item(0, 3, 9*i+9))}))
	}
}

func TestP10_2RunErrors(t *testing.T) {
	good, bad := load(empty), api.Job{Kind: 2, M: 1}
	kindless := append(few(), api.Kind{})
	for _, x := range []struct {
		kinds  []api.Kind
		prices []api.Price
		jobs   []api.Job
		e      api.Errno
	}{
		{slices.Repeat(few(), 9), badPrices()[0], nil, api.ErrMany},
		{slices.Repeat(few(), 9), prices(), list(bad), api.ErrMany},
		{kindless, badPrices()[0], list(good), api.ErrKind},
		{kindless, prices(), make([]api.Job, 201), api.ErrKind},
		{few(), badPrices()[0], nil, api.ErrBad},
		{few(), badPrices()[0], make([]api.Job, 201), api.ErrBad},
		{few(), badPrices()[0], list(bad), api.ErrBad},
		{few(), prices(), slices.Repeat(list(good), 201), api.ErrMany},
		{few(), prices(), slices.Repeat(list(bad), 201), api.ErrMany},
		{few(), prices(), slices.Repeat(list(bad), 200), api.ErrArg},
		{few(), prices(), list(bad), api.ErrArg},
		{few(), prices(), list(good, bad, good), api.ErrArg},
		{few(), prices(), list(load(overlap), good, api.Job{}), api.ErrArg},
	} {
		s, all, e := studio.Run(x.kinds, x.prices, x.jobs)
		wantErr(t, x.jobs, e, x.e)
		want(t, "run", s, api.Studio{})
		want(t, "run", all, nil)
	}
}

// Any jobs do what the table of the chapter says; how often each kind of them was done with and without an error is counted.
func TestP10_2AnyJobs(t *testing.T) {
	r := rand.New(rand.NewSource(2))
	var counts [11][2]int
	for range 150 {
		s := withDocs()
		for range 40 {
			j := randomJob(r)
			s2, wanted := wantDone(s, j)
			after, done := do(t, s, j)
			want(t, j, done, wanted)
			want(t, j, after, s2)
			s = s2
			if done.E == api.OK {
				counts[j.Kind][0]++
			} else {
				counts[j.Kind][1]++
			}
		}
	}
	for kind := 1; kind <= 10; kind++ {
		if counts[kind][0] < 50 || counts[kind][1] < 50 {
			t.Error(kind, counts[kind])
		}
	}
}
