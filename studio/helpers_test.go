package studio_test

import (
	"fmt"
	"math"
	"math/rand"
	"reflect"
	"slices"
	"strings"
	"testing"

	"studwork/api"
	"studwork/box"
	"studwork/compose"
	"studwork/lattice"
	"studwork/stand"
	"studwork/steps"
	"studwork/studio"
	"studwork/text"
)

// The helpers here follow the words of the chapter as plainly as they can. They call the lower layers, which have tests of their own, and no function of package studio but where they say so, so that tests can hold its results against theirs.

var extremes = []int{math.MinInt, math.MinInt + 1, math.MinInt32, -1001, -1, 1001, 1 << 33, math.MaxInt - 1, math.MaxInt}

func list[T any](l ...T) []T { return l }

func cell(x, y, z int) api.Cell { return api.Cell{X: x, Y: y, Z: z} }

func item(kind int, color uint8, n int) api.Item { return api.Item{Kind: kind, Color: color, N: n} }

func price(kind int, color uint8, cents int) api.Price {
	return api.Price{Kind: kind, Color: color, Cents: cents}
}

// items is a stock of n items, each of another kind or colour, with so many parts each. The first parts are left out.
func items(from, n, parts int) []api.Item {
	var l []api.Item
	for i := from; i < from+n; i++ {
		l = append(l, item(i/16, uint8(i%16), parts))
	}
	return l
}

// plated is a kind of w * d cells with studs above and tubes below.
func plated(w, d, weight int) api.Kind {
	k := api.Kind{Weight: weight}
	for y := range d {
		for x := range w {
			at := cell(x, y, 0)
			k.Cells = append(k.Cells, at)
			k.Knobs = append(k.Knobs, api.Knob{At: at, Dir: 4, Sort: 1}, api.Knob{At: at, Dir: 5, Sort: 2})
		}
	}
	return k
}

// few are the kinds of the chapter's examples.
func few() []api.Kind { return list(plated(1, 1, 1), plated(1, 2, 2)) }

// kinds are those of the examples, a smooth one, and a long and heavy one.
func kinds() []api.Kind {
	return append(few(), api.Kind{Cells: list(cell(0, 0, 0)), Weight: 3}, plated(4, 1, 40))
}

// prices are those of the examples.
func prices() []api.Price { return list(price(0, 3, 10), price(1, 3, 15)) }

// wall is the first shape of layer 7, and plates its plates.
func wall() api.Shape { return api.Shape{W: 2, D: 1, H: 2, Cells: []uint8{3, 3, 3, 3}} }

func plates() []api.Plate { return list(api.Plate{W: 1, D: 1, N: 9}, api.Plate{W: 1, D: 2, N: 9}) }

// Texts. What is accepted is so for the kinds of this file.
const (
	pair    = "sub a\nbrick 0 0 0 0 0 3\nbrick 1 0 0 1 0 3\nend\n" // of the examples
	overlap = "sub a\nbrick 0 0 0 0 0 3\nbrick 1 0 0 0 0 3\nend\n"
	unknown = "sub a\nbrick 0 0 0 0 0 3\nbrick 9 0 0 1 0 3\nend\n" // a kind that there is not
	empty   = "sub none\nend\n"
	air     = "sub air\nbrick 0 0 0 0 0 3\nbrick 0 5 0 1 0 3\nbrick 2 5 5 2 0 0\nend\n" // two bricks fall
	heavy   = "sub t\nbrick 3 0 0 1 0 1\nbrick 0 0 0 0 0 1\nbrick 3 3 0 2 0 1\nbrick 3 6 0 1 0 1\nend\n"
	stairs  = "sub top\nuse step 0 0 -7 0 3\nuse step 3 0 -7 1 0\nend\nsub step\nbrick 1 0 0 0 0 0\nuse dot 0 0 1 0 4\nend\nsub dot\nbrick 0 0 0 0 2 0\nend\n"
	// An unused sub-model has lines that cannot be flattened: of kinds that there are not, and at places out of range.
	spare = "sub a\nbrick 0 0 0 0 0 3\nend\nsub b\nuse c 1000 0 0 0 0\nbrick 15 0 0 0 0 0\nend\nsub c\nbrick 0 1 0 0 0 0\nend\n"
	far   = "sub a\nuse b 1000 0 0 0 0\nend\nsub b\nbrick 0 1 0 0 0 0\nend\n"
)

// bricksText is a text with n bricks, each of which has the line that a function says.
func bricksText(n int, line func(i int) string) string {
	var b strings.Builder
	b.WriteString("sub all\n")
	for from := 0; from < n; from += 10 {
		fmt.Fprintf(&b, "use s%d 0 0 0 0 0\n", from/10)
	}
	b.WriteString("end\n")
	for i := range n {
		if i%10 == 0 {
			fmt.Fprintf(&b, "sub s%d\n", i/10)
		}
		b.WriteString(line(i) + "\n")
		if i%10 == 9 || i == n-1 {
			b.WriteString("end\n")
		}
	}
	return b.String()
}

// tower is n bricks of one cell on each other.
func tower(n int) string {
	return bricksText(n, func(i int) string { return fmt.Sprint("brick 0 0 0 ", i, " 0 3") })
}

// motley is n bricks on the table, each of another kind or colour.
func motley(n int) string {
	return bricksText(n, func(i int) string { return fmt.Sprint("brick ", i/16, " ", i, " 0 0 0 ", i%16) })
}

// wide has a sub-model of 15 bricks that is used twice: there are too many lines when it is inlined.
func wide() string {
	var b strings.Builder
	b.WriteString("sub a\nuse b 0 0 0 0 3\nuse b 0 0 1 0 4\nend\nsub b\n")
	for x := range 15 {
		fmt.Fprintf(&b, "brick 0 %d 0 0 0 0\n", x)
	}
	return b.String() + "end\n"
}

func load(s string) api.Job     { return api.Job{Kind: 1, Text: s} }
func show(n int) api.Job        { return api.Job{Kind: 2, N: n} }
func inline(n, sub int) api.Job { return api.Job{Kind: 3, N: n, M: sub} }
func drop(n int) api.Job        { return api.Job{Kind: 4, N: n} }
func stands(n int) api.Job      { return api.Job{Kind: 5, N: n} }
func guide(n, most int) api.Job { return api.Job{Kind: 6, N: n, M: most} }
func store(l ...api.Item) api.Job {
	return api.Job{Kind: 7, Items: l}
}
func build(n int) api.Job { return api.Job{Kind: 8, N: n} }
func buy(n int) api.Job   { return api.Job{Kind: 9, N: n} }
func lay(name string, s api.Shape, l []api.Plate, uses ...int) api.Job {
	return api.Job{Kind: 10, Text: name, Shape: s, Plates: l, Uses: uses}
}

// docOf is what layer 2 reads.
func docOf(s string) api.Doc {
	d, _, e := text.Read(s)
	if e != api.OK {
		panic(s)
	}
	return d
}

func docsOf(l ...string) []api.Doc {
	var docs []api.Doc
	for _, s := range l {
		docs = append(docs, docOf(s))
	}
	return docs
}

// some is a valid studio with all there is.
func some() api.Studio {
	return api.Studio{
		Kinds:  kinds(),
		Docs:   docsOf(pair, stairs, air),
		Stock:  list(item(0, 3, 5), item(1, 3, 2), item(2, 0, 7)),
		Prices: append(prices(), price(2, 0, 1)),
		Spent:  90,
	}
}

// wantModel returns the model of a document, and whether it is accepted.
func wantModel(l []api.Kind, d api.Doc) (api.Model, bool) {
	if text.Check(d) != api.OK {
		return api.Model{}, false
	}
	m, e := text.Flatten(d)
	return m, e == api.OK && lattice.Check(l, m) == api.OK
}

// wantStudio tells whether a studio is valid. That prices are in order is told by the places of their parts.
func wantStudio(s api.Studio) bool {
	if lattice.CheckKinds(s.Kinds) != api.OK || len(s.Docs) > 4 || s.Spent < 0 || s.Spent > 1<<40 {
		return false
	}
	for _, d := range s.Docs {
		if _, ok := wantModel(s.Kinds, d); !ok {
			return false
		}
	}
	for _, x := range s.Stock {
		if x.Kind >= len(s.Kinds) {
			return false
		}
	}
	return box.Check(s.Stock) == api.OK && wantPrices(s.Prices, len(s.Kinds))
}

func wantPrices(l []api.Price, kinds int) bool {
	last := -1
	for _, p := range l {
		if p.Kind < 0 || p.Kind >= kinds || p.Color > 15 || p.Cents < 0 || p.Cents > 10000 || 16*p.Kind+int(p.Color) <= last {
			return false
		}
		last = 16*p.Kind + int(p.Color)
	}
	return len(l) <= 60
}

// wantJob tells whether a job is valid: what is named for its kind is taken out, and then nothing may be left.
func wantJob(j api.Job) bool {
	kind := j.Kind
	j.Kind = 0
	switch kind {
	case 1:
		j.Text = ""
	case 2, 4, 5, 8, 9:
		j.N = 0
	case 3, 6:
		j.N, j.M = 0, 0
	case 7:
		j.Items = nil
	case 10:
		j.Text, j.Shape, j.Plates, j.Uses = "", api.Shape{}, nil, nil
	default:
		return false
	}
	return isEmpty(j)
}

// isEmpty tells whether a value, or all that is in it, is zero or an empty list.
func isEmpty(v any) bool { return isEmptyValue(reflect.ValueOf(v)) }

func isEmptyValue(v reflect.Value) bool {
	switch v.Kind() {
	case reflect.Struct:
		for i := range v.NumField() {
			if !isEmptyValue(v.Field(i)) {
				return false
			}
		}
		return true
	case reflect.Slice:
		return v.Len() == 0
	}
	return v.IsZero()
}

// wantDone returns the studio after a valid job, and what is done, as the table of the chapter says it.
func wantDone(s api.Studio, j api.Job) (api.Studio, api.Done) {
	fail := func(e api.Errno) (api.Studio, api.Done) { return s, api.Done{E: e} }
	switch j.Kind {
	case 1:
		return wantLoaded(s, j.Text)
	case 7:
		l, e := box.Add(s.Stock, j.Items)
		if box.Check(j.Items) != api.OK || slices.ContainsFunc(j.Items, func(x api.Item) bool { return x.Kind >= len(s.Kinds) }) {
			return fail(api.ErrBad)
		}
		if e != api.OK {
			return fail(e)
		}
		s.Stock = l
		return s, api.Done{Items: l}
	case 10:
		return wantComposed(s, j)
	}
	if j.N < 0 || j.N >= len(s.Docs) {
		return fail(api.ErrNone)
	}
	if 8 <= j.Kind {
		return wantParts(s, j)
	}
	return wantOfDoc(s, j)
}

func wantLoaded(s api.Studio, words string) (api.Studio, api.Done) {
	d, line, e := text.Read(words)
	if e != api.OK {
		return s, api.Done{E: e, N: line}
	}
	if len(s.Docs) == 4 {
		return s, api.Done{E: api.ErrFull}
	}
	m, e := text.Flatten(d)
	if e == api.OK {
		e = lattice.Check(s.Kinds, m)
	}
	if e != api.OK {
		return s, api.Done{E: e}
	}
	s.Docs = append(slices.Clone(s.Docs), d)
	return s, api.Done{N: len(s.Docs) - 1}
}

// wantOfDoc does the jobs with a document that have nothing to do with parts.
func wantOfDoc(s api.Studio, j api.Job) (api.Studio, api.Done) {
	var done api.Done
	d := s.Docs[j.N]
	m, _ := text.Flatten(d)
	table := 0
	for i, b := range m.Bricks {
		cells, _ := lattice.Cells(s.Kinds, b)
		for n, c := range cells {
			if i == 0 && n == 0 || c.Z < table {
				table = c.Z
			}
		}
	}
	switch j.Kind {
	case 2:
		done.Text, done.E = text.Write(d)
	case 3:
		if d, done.E = text.Inline(d, j.M); done.E == api.OK {
			s.Docs = slices.Clone(s.Docs)
			s.Docs[j.N] = d
			done.N = len(d.Subs)
		}
	case 4:
		s.Docs = slices.Delete(slices.Clone(s.Docs), j.N, j.N+1)
		done.N = len(s.Docs)
	case 5:
		done.List, done.E = stand.Falling(s.Kinds, m, api.Rest{Table: table})
	case 6:
		done.Steps, done.E = steps.Find(s.Kinds, m, api.Rest{Table: table}, j.M)
		done.N = len(done.Steps)
	}
	return s, done
}

// wantParts builds, or buys.
func wantParts(s api.Studio, j api.Job) (api.Studio, api.Done) {
	fail := func(e api.Errno) (api.Studio, api.Done) { return s, api.Done{E: e} }
	needs, _ := text.Count(s.Docs[j.N])
	if len(needs) > 30 {
		return fail(api.ErrMany)
	}
	if j.Kind == 8 {
		left, e := box.Take(s.Stock, needs)
		if e != api.OK {
			return fail(e)
		}
		s.Stock = left
		return s, api.Done{Items: needs}
	}
	bill, e := box.Buy(s.Stock, needs, nil, s.Prices)
	if e != api.OK {
		return fail(e)
	}
	if s.Spent+bill.Cost > 1<<40 {
		return fail(api.ErrFull)
	}
	stock, e := box.Add(s.Stock, bill.Buy)
	if e != api.OK {
		return fail(e)
	}
	s.Stock = stock
	s.Spent += bill.Cost
	return s, api.Done{N: bill.Cost, Items: bill.Buy}
}

func wantComposed(s api.Studio, j api.Job) (api.Studio, api.Done) {
	fail := func(e api.Errno) (api.Studio, api.Done) { return s, api.Done{E: e} }
	d := api.Doc{Subs: []api.Sub{{Name: j.Text}}}
	if text.Check(d) != api.OK {
		return fail(api.ErrName)
	}
	if len(j.Uses) != len(j.Plates) {
		return fail(api.ErrArg)
	}
	for _, u := range j.Uses {
		if u < 0 || u >= len(s.Kinds) {
			return fail(api.ErrArg)
		}
	}
	laid, e := compose.Compose(j.Shape, j.Plates)
	if e != api.OK {
		return fail(e)
	}
	made, e := compose.Kinds(j.Plates)
	if e != api.OK {
		return fail(api.ErrKind)
	}
	for _, x := range laid {
		if !reflect.DeepEqual(made[x.Plate], s.Kinds[j.Uses[x.Plate]]) {
			return fail(api.ErrKind)
		}
	}
	if len(s.Docs) == 4 {
		return fail(api.ErrFull)
	}
	m, _ := compose.Model(j.Shape, j.Plates, laid)
	for _, b := range m.Bricks {
		b.Kind = j.Uses[b.Kind]
		d.Subs[0].Lines = append(d.Subs[0].Lines, api.Line{Sub: -1, Brick: b})
	}
	s.Docs = append(slices.Clone(s.Docs), d)
	return s, api.Done{N: len(s.Docs) - 1}
}

// plain returns a value with nil in place of empty lists, also of those inside of others.
func plain[T any](v T) T {
	c := reflect.New(reflect.TypeOf(v)).Elem()
	copyPlain(c, reflect.ValueOf(v))
	return c.Interface().(T)
}

func copyPlain(to, from reflect.Value) {
	switch from.Kind() {
	case reflect.Struct:
		for i := range from.NumField() {
			copyPlain(to.Field(i), from.Field(i))
		}
	case reflect.Slice:
		if from.Len() == 0 {
			return
		}
		to.Set(reflect.MakeSlice(from.Type(), from.Len(), from.Len()))
		for i := range from.Len() {
			copyPlain(to.Index(i), from.Index(i))
		}
	default:
		to.Set(from)
	}
}

// alike tells whether two values are the same, but for empty lists that are nil.
func alike[T any](a, b T) bool { return reflect.DeepEqual(plain(a), plain(b)) }

func wantErr(t *testing.T, what any, got, want api.Errno) {
	t.Helper()
	if got != want {
		t.Errorf("%v: got error %d, want %d", what, got, want)
	}
}

// want holds a value against another one.
func want[T any](t *testing.T, what any, got, want T) {
	t.Helper()
	if !alike(got, want) {
		t.Errorf("%v: got %+v, want %+v", what, got, want)
	}
}

// do does a job by package studio, which has to have no error beside the one in what is done.
func do(t *testing.T, s api.Studio, j api.Job) (api.Studio, api.Done) {
	t.Helper()
	after, done, e := studio.Do(s, j)
	wantErr(t, j, e, api.OK)
	return after, done
}

// wantKept does a job that has to leave the studio as it was, and returns what is to be done.
func wantKept(t *testing.T, s api.Studio, j api.Job, d api.Done) {
	t.Helper()
	after, done := do(t, s, j)
	want(t, j, done, d)
	want(t, j, after, s)
}

// wantFails does a job that has to have an error, and nothing else.
func wantFails(t *testing.T, s api.Studio, j api.Job, e api.Errno) {
	t.Helper()
	wantKept(t, s, j, api.Done{E: e})
}

// wantAfter does a job, after which the studio has to be as it is given.
func wantAfter(t *testing.T, s api.Studio, j api.Job, after api.Studio, d api.Done) {
	t.Helper()
	got, done := do(t, s, j)
	want(t, j, done, d)
	want(t, j, got, after)
}

// randomJob returns a valid job, many of which have no error for a studio with the kinds and prices of this file.
func randomJob(r *rand.Rand) api.Job {
	n := r.Intn(1 + r.Intn(5))
	switch r.Intn(14) {
	case 0, 1:
		return load(randomText(r))
	case 2:
		return show(n)
	case 3:
		return inline(n, 1+r.Intn(3)-r.Intn(2))
	case 4:
		return drop(n)
	case 5:
		return stands(n)
	case 6:
		return guide(n, r.Intn(10))
	case 7:
		return store(randomStock(r)...)
	case 8, 9:
		return build(n)
	case 10, 11:
		return buy(n)
	}
	return randomLay(r)
}

func randomText(r *rand.Rand) string {
	all := list(pair, overlap, unknown, empty, air, heavy, stairs, spare, far, wide(), tower(5), tower(11), tower(41), motley(30), motley(31), "sub a", "sub a\nend\nsub a\nend")
	if r.Intn(2) == 0 {
		return all[r.Intn(len(all))]
	}
	// Few bricks near each other, some of them by a use: they overlap, or fall, or neither.
	var b strings.Builder
	b.WriteString("sub r\nuse x 0 0 2 1 3\n")
	for range 1 + r.Intn(3) {
		fmt.Fprintf(&b, "brick %d %d %d %d %d 3\n", r.Intn(4), r.Intn(4)-1, r.Intn(4)-1, r.Intn(3), r.Intn(4))
	}
	fmt.Fprintf(&b, "end\nsub x\nbrick %d %d 0 0 0 0\nend\n", r.Intn(2), r.Intn(3))
	return b.String()
}

func randomStock(r *rand.Rand) []api.Item {
	var l []api.Item
	for i := range 64 {
		if r.Intn(9) == 0 {
			l = append(l, item(i/16, uint8(i%16), 1+r.Intn(20)))
		}
	}
	if r.Intn(4) == 0 {
		l = append(l, item(3+r.Intn(4), uint8(r.Intn(17)), r.Intn(1002)))
	}
	return l
}

func randomLay(r *rand.Rand) api.Job {
	s := api.Shape{W: 1 + r.Intn(3), D: 1 + r.Intn(2), H: 1 + r.Intn(3)}
	for range s.W * s.D * s.H {
		s.Cells = append(s.Cells, uint8(r.Intn(5)/4+r.Intn(9)/8+2))
	}
	if r.Intn(2) == 0 {
		s.Cells = slices.Repeat([]uint8{4}, len(s.Cells))
	}
	s.Cells[r.Intn(len(s.Cells))] *= uint8(r.Intn(2))
	l, uses := plates(), list(0, 1)
	if r.Intn(4) == 0 {
		l, uses = append(l, api.Plate{W: 1, D: 3, N: 1}), list(0, 1, r.Intn(3))
	}
	if r.Intn(9) == 0 {
		uses[r.Intn(len(uses))] = r.Intn(5)
	}
	return lay(list("wall", "wall", "wall", "Wall")[r.Intn(4)], s, l, uses...)
}
