package studio_test

import (
	"math/rand"
	"reflect"
	"slices"
	"strings"
	"testing"

	"studwork/api"
	"studwork/studio"
)

// call is the arguments of all functions.
type call struct {
	s, other api.Studio
	j        api.Job
	jobs     []api.Job
}

// result is what a call returned beside its error.
type result struct {
	values []any
	e      api.Errno
}

// all calls all functions.
func (c call) all() map[string]result {
	s, e := studio.New(c.s.Kinds, c.s.Prices)
	after, done, doE := studio.Do(c.s, c.j)
	ran, dones, runE := studio.Run(c.s.Kinds, c.s.Prices, c.jobs)
	return map[string]result{
		"New":      {list[any](s), e},
		"Check":    {nil, studio.Check(c.s)},
		"Same":     {list[any](studio.Same(c.s, c.other)), api.OK},
		"CheckJob": {nil, studio.CheckJob(c.j)},
		"Do":       {list[any](after, done), doE},
		"Run":      {list[any](ran, dones), runE},
	}
}

// someCalls returns arguments with which most functions have results.
func someCalls(r *rand.Rand, n int) []call {
	var calls []call
	for range n {
		c := call{s: some(), other: some(), j: randomJob(r)}
		if r.Intn(2) == 0 {
			c.s.Docs = append(c.s.Docs, docOf(list(spare, wide(), tower(10))[r.Intn(3)]))
		}
		for range r.Intn(9) {
			c.jobs = append(c.jobs, randomJob(r))
		}
		calls = append(calls, c)
	}
	return calls
}

// roomy returns a copy of a value in which all lists have memory after their ends, filled with what they begin with.
func roomy[T any](v T) T {
	c := reflect.New(reflect.TypeOf(v)).Elem()
	copyRoomy(c, reflect.ValueOf(v))
	return c.Interface().(T)
}

func copyRoomy(to, from reflect.Value) {
	switch from.Kind() {
	case reflect.Struct:
		for i := range from.NumField() {
			copyRoomy(to.Field(i), from.Field(i))
		}
	case reflect.Slice:
		n := from.Len()
		to.Set(reflect.MakeSlice(from.Type(), n+3, n+3))
		for i := range n + 3 {
			if n > 0 {
				copyRoomy(to.Index(i), from.Index(i%n))
			}
		}
		to.Set(to.Slice(0, n))
	default:
		to.Set(from)
	}
}

func (c call) roomy() call { return call{roomy(c.s), roomy(c.other), roomy(c.j), roomy(c.jobs)} }

// slicesOf calls a function with all lists in a value up to the ends of their memory, those inside of another one first.
func slicesOf(v reflect.Value, do func(reflect.Value)) {
	switch v.Kind() {
	case reflect.Struct:
		for i := range v.NumField() {
			slicesOf(v.Field(i), do)
		}
	case reflect.Slice:
		v = v.Slice(0, v.Cap())
		for i := range v.Len() {
			slicesOf(v.Index(i), do)
		}
		do(v)
	}
}

// memory is where a list is kept.
type memory struct{ from, end uintptr }

// memoriesOf returns where all lists in some values are kept.
func memoriesOf(values ...any) []memory {
	var l []memory
	for _, v := range values {
		slicesOf(reflect.ValueOf(v), func(s reflect.Value) {
			if n := uintptr(s.Len()) * s.Type().Elem().Size(); n > 0 {
				l = append(l, memory{s.Pointer(), s.Pointer() + n})
			}
		})
	}
	return l
}

// whole returns a copy of the arguments in which lists go up to the ends of their memory.
func (c call) whole() []any {
	var l []any
	for _, v := range list[any](c.s, c.other, c.j, c.jobs) {
		slicesOf(reflect.ValueOf(v), func(s reflect.Value) {
			l = append(l, reflect.AppendSlice(reflect.MakeSlice(s.Type(), 0, s.Len()), s).Interface())
		})
	}
	return l
}

// R3: arguments are only read, also after the ends of their lists.
func TestP1Arguments(t *testing.T) {
	for _, c := range someCalls(rand.New(rand.NewSource(91)), 300) {
		c = c.roomy()
		before := c.whole()
		first := c.all()
		if !reflect.DeepEqual(before, c.whole()) {
			t.Fatal("arguments changed", c.j, c.jobs)
		}
		for _, r := range first {
			for _, v := range r.values {
				slicesOf(reflect.ValueOf(v), reflect.Value.Clear)
			}
		}
		if !reflect.DeepEqual(before, c.whole()) {
			t.Fatal("arguments are in results", c.j, c.jobs)
		}
	}
}

// R3: lists of results share no memory with those of arguments, nor with one another.
func TestP1Memory(t *testing.T) {
	for _, c := range someCalls(rand.New(rand.NewSource(92)), 600) {
		c = c.roomy()
		for name, r := range c.all() {
			given := memoriesOf(c.s, c.other, c.j, c.jobs)
			for i, m := range memoriesOf(r.values...) {
				for n, o := range append(given, memoriesOf(r.values...)...) {
					if n != len(given)+i && m.from < o.end && o.from < m.end {
						t.Fatal(name, c.j, c.jobs)
					}
				}
			}
		}
	}
}

// The same arguments always have the same results, whatever is done to results before.
func TestP1SameResults(t *testing.T) {
	for _, c := range someCalls(rand.New(rand.NewSource(93)), 100) {
		wanted := c.all()
		for range 2 {
			got := c.all()
			if !reflect.DeepEqual(got, wanted) {
				t.Fatal(got, wanted)
			}
			for _, r := range got {
				for _, v := range r.values {
					slicesOf(reflect.ValueOf(v), reflect.Value.Clear)
				}
			}
		}
	}
}

// filled returns a value with empty lists in place of those that are nil.
func filled[T any](v T) T {
	c := reflect.New(reflect.TypeOf(v)).Elem()
	copyFilled(c, reflect.ValueOf(v))
	return c.Interface().(T)
}

func copyFilled(to, from reflect.Value) {
	switch from.Kind() {
	case reflect.Struct:
		for i := range from.NumField() {
			copyFilled(to.Field(i), from.Field(i))
		}
	case reflect.Slice:
		to.Set(reflect.MakeSlice(from.Type(), from.Len(), from.Len()))
		for i := range from.Len() {
			copyFilled(to.Index(i), from.Index(i))
		}
	default:
		to.Set(from)
	}
}

// R4: nil and empty lists are the same.
func TestP1NilAndEmpty(t *testing.T) {
	calls := append(someCalls(rand.New(rand.NewSource(94)), 200), call{}, call{j: store()}, call{j: load(empty)}, call{jobs: list(load(empty), buy(0), stands(0))})
	for _, c := range calls {
		mine := call{plain(c.s), plain(c.other), plain(c.j), plain(c.jobs)}.all()
		theirs := call{filled(c.s), filled(c.other), filled(c.j), filled(c.jobs)}.all()
		for name, r := range mine {
			o := theirs[name]
			if r.e != o.e || len(r.values) != len(o.values) {
				t.Fatal(name, c, r, o)
			}
			for i, v := range r.values {
				if !reflect.DeepEqual(plainAny(v), plainAny(o.values[i])) {
					t.Fatal(name, c, r, o)
				}
			}
		}
	}
}

func plainAny(v any) any {
	c := reflect.New(reflect.TypeOf(v)).Elem()
	copyPlain(c, reflect.ValueOf(v))
	return c.Interface()
}

// R2: together with an error there is nothing else; but for the line of a text that cannot be read.
func wantNothing(t *testing.T, c call) {
	t.Helper()
	for name, r := range c.all() {
		if r.e != api.OK && slices.ContainsFunc(r.values, func(v any) bool { return !isEmpty(v) }) {
			t.Error(name, c, r)
		}
		if name != "Do" || r.e != api.OK {
			continue
		}
		done := r.values[1].(api.Done)
		if done.E == api.OK {
			continue
		}
		if done.E == api.ErrForm || done.E == api.ErrName && c.j.Kind == api.JobLoad {
			done.N = 0
		}
		done.E = api.OK
		if !isEmpty(done) || !alike(r.values[0].(api.Studio), c.s) {
			t.Error(c, r)
		}
	}
}

// R2 and R5 to R7: numbers of any size lead to an error or a result, and never to a panic.
func TestP1Anything(t *testing.T) {
	r := rand.New(rand.NewSource(95))
	for _, c := range someCalls(r, 4000) {
		c = c.roomy()
		for range r.Intn(3) {
			change(r, reflect.ValueOf(&c.j).Elem())
		}
		if r.Intn(2) == 0 {
			change(r, reflect.ValueOf(&c.s).Elem())
		}
		if len(c.jobs) > 0 && r.Intn(2) == 0 {
			change(r, reflect.ValueOf(&c.jobs[0]).Elem())
		}
		wantNothing(t, c)
	}
}

// change changes one number, text or length somewhere in a value.
func change(r *rand.Rand, v reflect.Value) {
	switch v.Kind() {
	case reflect.Struct:
		change(r, v.Field(r.Intn(v.NumField())))
	case reflect.Slice:
		if n := v.Len(); n == 0 || r.Intn(9) == 0 {
			v.Set(v.Slice(0, min(v.Cap(), r.Intn(n+3))))
		} else {
			change(r, v.Index(r.Intn(n)))
		}
	case reflect.String:
		v.SetString(list("", "a", "A", "\xff", pair, stairs, strings.Repeat("a", 99))[r.Intn(7)])
	case reflect.Bool:
		v.SetBool(!v.Bool())
	case reflect.Uint8:
		v.SetUint(uint64(r.Intn(256)))
	default:
		v.SetInt(int64(append(extremes, 0, 1, 2, 3, 4, 5)[r.Intn(len(extremes)+6)]))
	}
}

// Very long lists and texts are told by their lengths, or by their first numbers.
func TestP1Long(t *testing.T) {
	const many = 1 << 20
	for i, s := range []api.Studio{
		{Kinds: make([]api.Kind, many)},
		{Docs: make([]api.Doc, many)},
		{Docs: []api.Doc{{Subs: make([]api.Sub, many)}}},
		{Docs: []api.Doc{{Subs: []api.Sub{{Name: strings.Repeat("a", many)}}}}},
		{Docs: []api.Doc{{Subs: []api.Sub{{Name: "a", Lines: make([]api.Line, many)}}}}},
		{Stock: make([]api.Item, many)},
		{Prices: make([]api.Price, many)},
	} {
		wantErr(t, i, studio.Check(s), api.ErrBad)
		if !studio.Same(s, s) || studio.Same(s, some()) {
			t.Error(i)
		}
	}
	s := withDocs()
	wantFails(t, s, load(strings.Repeat("a", many)), api.ErrMany)
	wantFails(t, s, store(make([]api.Item, many)...), api.ErrBad)
	wantFails(t, s, lay(strings.Repeat("a", many), wall(), plates(), 0, 1), api.ErrName)
	wantFails(t, s, lay("a", wall(), plates(), make([]int, many)...), api.ErrArg)
	wantFails(t, s, lay("a", wall(), make([]api.Plate, many), make([]int, many)...), api.ErrPlate)
	wantFails(t, s, lay("a", api.Shape{W: 1, D: 1, H: 1, Cells: make([]uint8, many)}, plates(), 0, 1), api.ErrShape)
	_, _, e := studio.Run(few(), nil, make([]api.Job, many))
	wantErr(t, "jobs", e, api.ErrMany)
}

// Uses that double from sub-model to sub-model are told by their counts, and not gone through.
func TestP1ManyUses(t *testing.T) {
	var b strings.Builder
	for _, name := range strings.Fields("a b c d e f g") {
		b.WriteString("sub " + name + "\n" + strings.Repeat("use "+string(name[0]+1)+" 0 0 0 0 0\n", 20) + "end\n")
	}
	wantAfter(t, withDocs(), load(b.String()+"sub h\nend\n"), withDocs(b.String()+"sub h\nend\n"), api.Done{})
	wantFails(t, withDocs(), load(b.String()+"sub h\nbrick 0 0 0 0 0 3\nend\n"), api.ErrMany)
	wantErr(t, "uses", studio.Check(api.Studio{Kinds: few(), Docs: docsOf(b.String() + "sub h\nbrick 0 0 0 0 0 3\nend\n")}), api.ErrBad)
}
