package studio_test

import (
	"math/rand"
	"slices"
	"testing"

	"studwork/api"
	"studwork/studio"
)

// badPrices are lists that are no prices for parts of the kinds of the examples.
func badPrices() [][]api.Price {
	var many []api.Price
	for i := range 61 {
		many = append(many, price(i/16, uint8(i%16), 1))
	}
	l := [][]api.Price{
		list(price(2, 0, 1)),
		list(price(0, 0, 1), price(2, 0, 1)),
		list(price(15, 0, 1)),
		list(price(16, 0, 1)),
		list(price(0, 16, 1)),
		list(price(0, 255, 1)),
		list(price(0, 0, 10001)),
		list(price(0, 0, -1)),
		list(price(0, 0, 1), price(0, 0, 1)),
		list(price(0, 1, 1), price(0, 0, 1)),
		list(price(1, 0, 1), price(0, 1, 1)),
		many,
	}
	for _, n := range extremes {
		l = append(l, list(price(n, 0, 1)))
		if n < 0 || n > 10000 {
			l = append(l, list(price(0, 0, n)))
		}
	}
	return l
}

// badStocks are lists that are no stocks of parts of the kinds of the examples.
func badStocks() [][]api.Item {
	l := [][]api.Item{
		list(item(2, 0, 1)),
		list(item(0, 0, 1), item(2, 0, 1)),
		list(item(15, 0, 1)),
		list(item(16, 0, 1)),
		list(item(0, 16, 1)),
		list(item(0, 0, 0)),
		list(item(0, 0, -1)),
		list(item(0, 0, 1001)),
		list(item(0, 0, 1), item(0, 0, 1)),
		list(item(0, 1, 1), item(0, 0, 1)),
		list(item(1, 0, 1), item(0, 1, 1)),
		items(0, 31, 1),
	}
	for _, n := range extremes {
		l = append(l, list(item(n, 0, 1)), list(item(0, 0, n)))
	}
	return l
}

// badKinds are lists that are no kinds, with the error of layer 1.
func badKinds() map[api.Errno][]api.Kind {
	return map[api.Errno][]api.Kind{
		api.ErrMany: slices.Repeat(few(), 9)[:17],
		api.ErrKind: append(few(), plated(1, 1, 0)),
	}
}

func TestP10_1New(t *testing.T) {
	for _, x := range []struct {
		kinds  []api.Kind
		prices []api.Price
	}{
		{nil, nil},
		{few(), nil},
		{few(), prices()},
		{kinds(), list(price(3, 15, 10000), price(3, 15, 0))[:1]},
		{slices.Repeat(few(), 8), list(price(0, 0, 0), price(15, 15, 10000))},
	} {
		s, e := studio.New(x.kinds, x.prices)
		wantErr(t, x, e, api.OK)
		want(t, "new", s, api.Studio{Kinds: x.kinds, Prices: x.prices})
		wantErr(t, "new", studio.Check(s), api.OK)
	}
}

func TestP10_1NewErrors(t *testing.T) {
	for e, l := range badKinds() {
		for _, p := range append(badPrices(), prices()) {
			s, got := studio.New(l, p)
			wantErr(t, p, got, e)
			want(t, "new", s, api.Studio{})
		}
	}
	for _, l := range badPrices() {
		s, e := studio.New(few(), l)
		wantErr(t, l, e, api.ErrBad)
		want(t, "new", s, api.Studio{})
	}
	_, e := studio.New(nil, prices())
	wantErr(t, "prices without kinds", e, api.ErrBad)
	_, e = studio.New(few()[:1], prices())
	wantErr(t, "a price without its kind", e, api.ErrBad)
}

func TestP10_1Check(t *testing.T) {
	var all []api.Price
	for i := range 60 {
		all = append(all, price(i/16, uint8(i%16), 10000))
	}
	for i, s := range []api.Studio{
		{},
		{Kinds: few()},
		{Docs: docsOf(empty, empty, empty, empty)},
		{Kinds: kinds(), Docs: docsOf(pair, stairs, tower(40), motley(31))},
		{Kinds: kinds(), Docs: docsOf(spare, air, heavy, wide())},
		{Kinds: kinds(), Stock: items(34, 30, 1000), Prices: all, Spent: 1 << 40},
		{Kinds: few(), Prices: list(price(0, 0, 0), price(1, 15, 10000)), Spent: 1},
		some(),
	} {
		wantErr(t, i, studio.Check(s), api.OK)
	}
}

// badDocs are documents that are not accepted for the kinds of this package's tests.
func badDocs() []api.Doc {
	twice := docOf(pair)
	twice.Subs = append(twice.Subs, twice.Subs[0])
	unnamed := docOf(pair)
	unnamed.Subs[0].Name = ""
	itself := docOf(pair)
	itself.Subs[0].Lines[0] = api.Line{Sub: 0}
	turned := docOf(pair)
	turned.Subs[0].Lines[0].Brick.Turn = 24
	return append(docsOf(overlap, unknown, far, tower(41)), api.Doc{}, twice, unnamed, itself, turned)
}

func TestP10_1CheckDocs(t *testing.T) {
	for i, d := range badDocs() {
		for n := range 4 {
			s := some()
			s.Docs = slices.Insert(s.Docs, n, d)
			wantErr(t, i, studio.Check(s), api.ErrBad)
		}
	}
	s := some()
	s.Docs = docsOf(pair, pair, pair, pair, pair)
	wantErr(t, "five documents", studio.Check(s), api.ErrBad)
	s = some()
	s.Kinds = s.Kinds[:1]
	s.Stock, s.Prices = nil, nil
	wantErr(t, "documents of other kinds", studio.Check(s), api.ErrBad)
}

func TestP10_1CheckParts(t *testing.T) {
	for _, l := range badStocks() {
		wantErr(t, l, studio.Check(api.Studio{Kinds: few(), Stock: l}), api.ErrBad)
	}
	for _, l := range badPrices() {
		wantErr(t, l, studio.Check(api.Studio{Kinds: few(), Prices: l}), api.ErrBad)
	}
	for _, l := range badKinds() {
		wantErr(t, l, studio.Check(api.Studio{Kinds: l}), api.ErrBad)
	}
	for _, n := range append(extremes, 1<<40+1) {
		if n < 0 || n > 1<<40 {
			wantErr(t, n, studio.Check(api.Studio{Spent: n}), api.ErrBad)
		}
	}
}

// changes change one thing in the studio that some returns.
func changes() []func(s *api.Studio) {
	return []func(s *api.Studio){
		func(s *api.Studio) { s.Spent++ },
		func(s *api.Studio) { s.Kinds = s.Kinds[:3] },
		func(s *api.Studio) { s.Kinds[0], s.Kinds[1] = s.Kinds[1], s.Kinds[0] },
		func(s *api.Studio) { s.Kinds[3].Weight++ },
		func(s *api.Studio) { s.Kinds[3].Cells[3].X++ },
		func(s *api.Studio) { s.Kinds[3].Cells = s.Kinds[3].Cells[:3] },
		func(s *api.Studio) { s.Kinds[0].Knobs[1].Sort++ },
		func(s *api.Studio) { s.Kinds[0].Knobs[0].Dir++ },
		func(s *api.Studio) { s.Kinds[0].Knobs[0].At.Y++ },
		func(s *api.Studio) { s.Kinds[2].Knobs = s.Kinds[0].Knobs },
		func(s *api.Studio) { s.Docs = s.Docs[1:] },
		func(s *api.Studio) { s.Docs = append(s.Docs, s.Docs[0]) },
		func(s *api.Studio) { s.Docs[1], s.Docs[2] = s.Docs[2], s.Docs[1] },
		func(s *api.Studio) { s.Docs[0].Subs[0].Name = "b" },
		func(s *api.Studio) { s.Docs[1].Subs[2].Lines[0].Brick.Color++ },
		func(s *api.Studio) { s.Docs[1].Subs[0].Lines[1].Sub++ },
		func(s *api.Studio) { s.Docs[1].Subs[0].Lines[1].Brick.Kind++ },
		func(s *api.Studio) { s.Docs[2].Subs[0].Lines = s.Docs[2].Subs[0].Lines[:2] },
		func(s *api.Studio) { s.Docs[2].Subs = nil },
		func(s *api.Studio) { s.Stock = s.Stock[:2] },
		func(s *api.Studio) { s.Stock[0], s.Stock[1] = s.Stock[1], s.Stock[0] },
		func(s *api.Studio) { s.Stock[2].N++ },
		func(s *api.Studio) { s.Stock[0].Color++ },
		func(s *api.Studio) { s.Stock[0].Kind++ },
		func(s *api.Studio) { s.Prices = nil },
		func(s *api.Studio) { s.Prices[1].Cents++ },
		func(s *api.Studio) { s.Prices[2].Kind++ },
		func(s *api.Studio) { s.Prices[2].Color++ },
	}
}

func TestP10_1Same(t *testing.T) {
	if !studio.Same(some(), some()) || !studio.Same(api.Studio{}, api.Studio{}) {
		t.Error("the same studios")
	}
	for i, change := range changes() {
		a, b, c := some(), some(), some()
		change(&b)
		change(&c)
		if studio.Same(a, b) || studio.Same(b, a) || !studio.Same(b, c) {
			t.Error(i)
		}
	}
	// Studios that are not valid are the same, or not, as well.
	for _, n := range extremes {
		a := api.Studio{Spent: n, Stock: list(item(n, 99, n)), Docs: make([]api.Doc, 9)}
		b := api.Studio{Spent: n, Stock: list(item(n, 99, n)), Docs: make([]api.Doc, 9)}
		if !studio.Same(a, b) || studio.Same(a, some()) {
			t.Error(n)
		}
		b.Stock[0].N ^= 1
		if studio.Same(a, b) {
			t.Error(n)
		}
	}
}

// R4: nil and empty lists are the same.
func TestP10_1SameEmpty(t *testing.T) {
	none := api.Studio{Kinds: []api.Kind{}, Docs: []api.Doc{}, Stock: []api.Item{}, Prices: []api.Price{}}
	if !studio.Same(none, api.Studio{}) || !studio.Same(api.Studio{}, none) {
		t.Error("empty lists")
	}
	a := api.Studio{Kinds: []api.Kind{{}}, Docs: []api.Doc{{Subs: []api.Sub{{}}}, {}}}
	b := api.Studio{
		Kinds: []api.Kind{{Cells: []api.Cell{}, Knobs: []api.Knob{}}},
		Docs:  []api.Doc{{Subs: []api.Sub{{Lines: []api.Line{}}}}, {Subs: []api.Sub{}}},
	}
	if !studio.Same(a, b) || !studio.Same(b, a) {
		t.Error("empty lists in others")
	}
}

// fields are jobs without a kind, each with one field, or with one part of its shape.
func fields() []api.Job {
	l := []api.Job{
		{M: 1}, {Text: "a"}, {Text: "\x00"}, {Items: list(item(0, 0, 0))}, {Items: list(item(0, 3, 1))},
		{Shape: wall()}, {Shape: api.Shape{W: 1}}, {Shape: api.Shape{D: -1}}, {Shape: api.Shape{H: 1}}, {Shape: api.Shape{Cells: []uint8{0}}},
		{Plates: plates()}, {Plates: make([]api.Plate, 1)}, {Uses: list(0)}, {Uses: list(-1, 7)},
	}
	for _, n := range extremes {
		l = append(l, api.Job{N: n}, api.Job{M: n}, api.Job{Shape: api.Shape{W: n, D: -n}})
	}
	return l
}

// with returns a job with the fields of another one, too.
func with(a, b api.Job) api.Job {
	a.N |= b.N
	a.M |= b.M
	a.Text += b.Text
	a.Items = append(a.Items, b.Items...)
	a.Shape.W |= b.Shape.W
	a.Shape.D |= b.Shape.D
	a.Shape.H |= b.Shape.H
	a.Shape.Cells = append(a.Shape.Cells, b.Shape.Cells...)
	a.Plates = append(a.Plates, b.Plates...)
	a.Uses = append(a.Uses, b.Uses...)
	return a
}

func wantChecked(t *testing.T, j api.Job) {
	t.Helper()
	e := api.ErrArg
	if wantJob(j) {
		e = api.OK
	}
	wantErr(t, j, studio.CheckJob(j), e)
}

func TestP10_1CheckJob(t *testing.T) {
	for _, j := range []api.Job{
		load(""), load("?"), show(0), show(-9), inline(0, 0), inline(9, -9), drop(1), stands(2), guide(3, 4), store(), store(item(-1, 99, -1)),
		build(5), buy(6), lay("", api.Shape{}, nil), lay("wall", wall(), plates(), 0, 1), lay("?", api.Shape{W: -1}, plates(), 99),
	} {
		wantErr(t, j, studio.CheckJob(j), api.OK)
	}
	for kind := range 256 {
		j := api.Job{Kind: uint8(kind)}
		wantChecked(t, j)
		for _, a := range fields() {
			wantChecked(t, with(j, a))
			for _, b := range fields() {
				wantChecked(t, with(with(j, a), b))
			}
		}
	}
}

// R4: a list that has to be empty may be nil or empty.
func TestP10_1CheckJobEmpty(t *testing.T) {
	for kind := range 13 {
		j := api.Job{Kind: uint8(kind), Items: []api.Item{}, Shape: api.Shape{Cells: []uint8{}}, Plates: []api.Plate{}, Uses: []int{}}
		wantErr(t, j, studio.CheckJob(j), studio.CheckJob(api.Job{Kind: uint8(kind)}))
	}
}

// Check says of all sorts of studios whether they are valid.
func TestP10_1AnyStudio(t *testing.T) {
	r := rand.New(rand.NewSource(1))
	valid := 0
	for range 3000 {
		s := some()
		if r.Intn(2) == 0 {
			changes()[r.Intn(len(changes()))](&s)
		}
		if r.Intn(4) == 0 {
			s.Stock = append(s.Stock, item(r.Intn(6), uint8(r.Intn(17)), r.Intn(1002)))
		}
		if r.Intn(4) == 0 {
			s.Prices = append(s.Prices, price(r.Intn(6), uint8(r.Intn(17)), r.Intn(10002)))
		}
		if r.Intn(4) == 0 {
			s.Docs = append(s.Docs, append(docsOf(pair, empty), badDocs()...)[r.Intn(8)])
		}
		e := api.ErrBad
		if wantStudio(s) {
			e = api.OK
			valid++
		}
		wantErr(t, s, studio.Check(s), e)
	}
	if valid < 300 || valid > 2700 {
		t.Error(valid)
	}
}
