package box_test

import (
	"maps"
	"math"
	"math/rand"
	"reflect"
	"slices"
	"sort"
	"testing"

	"studwork/api"
	"studwork/box"
)

// The helpers here follow the words of the chapter as plainly as they can, and call no function of package box, so that tests can hold its results against theirs.

var extremes = []int{math.MinInt, math.MinInt + 1, math.MinInt32, -1001, -1, 10001, math.MaxInt32, math.MaxInt - 1, math.MaxInt}

func list[T any](l ...T) []T { return l }

func item(kind int, color uint8, n int) api.Item { return api.Item{Kind: kind, Color: color, N: n} }

// swap lets a part be taken in place of a needed one, which comes first.
func swap(kind int, color uint8, byKind int, byColor uint8) api.Swap {
	return api.Swap{Kind: kind, Color: color, ByKind: byKind, ByColor: byColor}
}

func use(need, by, n int) api.Use { return api.Use{Need: need, By: by, N: n} }

func price(kind int, color uint8, cents int) api.Price {
	return api.Price{Kind: kind, Color: color, Cents: cents}
}

// kinds is a stock of n items, each of another kind or colour, with so many parts each. The first parts are left out.
func kinds(from, n, parts int) []api.Item {
	var l []api.Item
	for i := from; i < from+n; i++ {
		l = append(l, item(i/16, uint8(i%16), parts))
	}
	return l
}

// one is a stock of n parts of one sort.
func one(n int) []api.Item { return list(item(1, 1, n)) }

// first are the needs of the chapter's examples, and others the swap there.
func first() []api.Item { return list(item(1, 1, 3), item(2, 1, 2)) }

func others() []api.Swap { return list(swap(2, 1, 1, 1)) }

// threePlans are the plans of the examples, of two, one and three parts.
func threePlans() [][]api.Item { return list(one(2), one(1), one(3)) }

func between(n, lo, hi int) bool { return lo <= n && n <= hi }

// place is the place of a part in the order of all parts.
func place(kind int, color uint8) int { return 16*kind + int(color) }

func wantPart(kind int, color uint8) bool { return between(kind, 0, 15) && color <= 15 }

func wantStock(l []api.Item) bool {
	for i, x := range l {
		if !wantPart(x.Kind, x.Color) || !between(x.N, 1, 1000) {
			return false
		}
		for _, y := range l[:i] {
			if place(y.Kind, y.Color) >= place(x.Kind, x.Color) {
				return false
			}
		}
	}
	return len(l) <= 30
}

// has returns how many parts of all kinds and colours a list of items has, by their places.
func has(l ...api.Item) [256]int {
	var n [256]int
	for _, x := range l {
		n[place(x.Kind, x.Color)] += x.N
	}
	return n
}

// itemsOf returns the items with so many parts, in order.
func itemsOf(n [256]int) []api.Item {
	var l []api.Item
	for i, parts := range n {
		if parts != 0 {
			l = append(l, item(i/16, uint8(i%16), parts))
		}
	}
	return l
}

func sum(l ...int) int {
	n := 0
	for _, x := range l {
		n += x
	}
	return n
}

func numbers(l []api.Item) []int {
	var n []int
	for _, x := range l {
		n = append(n, x.N)
	}
	return n
}

// wantMay tells whether a part may fill a needed one.
func wantMay(swaps []api.Swap, need, by api.Item) bool {
	return need.Kind == by.Kind && need.Color == by.Color || slices.Contains(swaps, swap(need.Kind, need.Color, by.Kind, by.Color))
}

// subsets returns all sets of the numbers below n, as lists in order.
func subsets(n int) [][]int {
	all := [][]int{nil}
	for i := range n {
		for _, l := range all[:1<<i] {
			all = append(all, append(slices.Clone(l), i))
		}
	}
	return all
}

// wantLack returns what a set of items of the needs lacks, if they need so many parts.
func wantLack(stock, needs []api.Item, swaps []api.Swap, counts, set []int) int {
	n := 0
	for _, i := range set {
		n += counts[i]
	}
	for _, x := range stock {
		if slices.ContainsFunc(set, func(i int) bool { return wantMay(swaps, needs[i], x) }) {
			n -= x.N
		}
	}
	return n
}

// wantShort returns the least set that lacks most, and how much that is.
func wantShort(stock, needs []api.Item, swaps []api.Swap) ([]int, int) {
	var short []int
	most := 0
	for _, set := range subsets(len(needs)) {
		n := wantLack(stock, needs, swaps, numbers(needs), set)
		if n > most || n == most && len(set) < len(short) {
			short, most = set, n
		}
	}
	return short, most
}

// wantCan tells whether there is a filling with these counts: no set of items lacks anything.
func wantCan(stock, needs []api.Item, swaps []api.Swap, counts []int) bool {
	for _, set := range subsets(len(needs)) {
		if wantLack(stock, needs, swaps, counts, set) > 0 {
			return false
		}
	}
	return true
}

// wantFilling returns how many parts each item of the needs gets by a list of uses, and whether it is a filling.
func wantFilling(stock, needs []api.Item, swaps []api.Swap, uses []api.Use) ([]int, bool) {
	got, taken := make([]int, len(needs)), make([]int, len(stock))
	for i, u := range uses {
		if !between(u.Need, 0, len(needs)-1) || !between(u.By, 0, len(stock)-1) || !wantMay(swaps, needs[u.Need], stock[u.By]) {
			return nil, false
		}
		if u.N < 1 || u.N > 1000 || i > 0 && 100*uses[i-1].Need+uses[i-1].By >= 100*u.Need+u.By {
			return nil, false
		}
		got[u.Need] += u.N
		taken[u.By] += u.N
	}
	for i, x := range needs {
		if got[i] > x.N {
			return nil, false
		}
	}
	for i, x := range stock {
		if taken[i] > x.N {
			return nil, false
		}
	}
	return got, true
}

// wantMost tries all fillings, part by part, and returns the greatest total.
func wantMost(stock, needs []api.Item, swaps []api.Swap) int {
	left := numbers(stock)
	var most func(need, parts int) int
	most = func(need, parts int) int {
		if need == len(needs) {
			return 0
		}
		if parts == needs[need].N {
			return most(need+1, 0)
		}
		n := most(need+1, 0)
		for i, x := range stock {
			if left[i] > 0 && wantMay(swaps, needs[need], x) {
				left[i]--
				n = max(n, 1+most(need, parts+1))
				left[i]++
			}
		}
		return n
	}
	return most(0, 0)
}

// wantOffer returns the price of a needed part, -1 if it has none, and as which part it is bought.
func wantOffer(need api.Item, swaps []api.Swap, prices []api.Price) (int, api.Item) {
	cents, by := -1, api.Item{}
	for _, p := range prices {
		x := item(p.Kind, p.Color, 0)
		if wantMay(swaps, need, x) && (cents < 0 || p.Cents < cents) {
			cents, by = p.Cents, x
		}
	}
	return cents, by
}

// wantOrder returns the items of the needs in the order in which a bill goes through them.
func wantOrder(needs []api.Item, swaps []api.Swap, prices []api.Price) []int {
	var order []int
	add := func(cents int) {
		for i, x := range needs {
			if n, _ := wantOffer(x, swaps, prices); n == cents {
				order = append(order, i)
			}
		}
	}
	add(-1)
	all := map[int]bool{}
	for _, p := range prices {
		all[p.Cents] = true
	}
	for _, cents := range slices.Backward(slices.Sorted(maps.Keys(all))) {
		add(cents)
	}
	return order
}

// wantBill goes through the items, each of which gets the greatest number with which there is a filling.
func wantBill(stock, needs []api.Item, swaps []api.Swap, prices []api.Price) (api.Bill, api.Errno) {
	filled := make([]int, len(needs))
	for _, i := range wantOrder(needs, swaps, prices) {
		filled[i] = sort.Search(needs[i].N, func(n int) bool {
			filled[i] = n + 1
			return !wantCan(stock, needs, swaps, filled)
		})
	}
	var bought [256]int
	cost, e := 0, api.OK
	for i, x := range needs {
		cents, by := wantOffer(x, swaps, prices)
		if n := x.N - filled[i]; n > 0 && cents < 0 {
			e = api.ErrPrice
		} else if n > 0 {
			cost += n * cents
			bought[place(by.Kind, by.Color)] += n
		}
	}
	if e == api.OK && slices.Max(bought[:]) > 1000 {
		e = api.ErrMany
	}
	if e != api.OK {
		return api.Bill{}, e
	}
	return api.Bill{Filled: filled, Buy: itemsOf(bought), Cost: cost}, api.OK
}

// wantTogether tells whether plans can be built of a box together.
func wantTogether(stock []api.Item, plans [][]api.Item, set []int) bool {
	left := has(stock...)
	for _, i := range set {
		for _, x := range plans[i] {
			left[place(x.Kind, x.Color)] -= x.N
		}
	}
	return slices.Min(left[:]) >= 0
}

// wantLeft returns what is left of a box when plans are built.
func wantLeft(stock []api.Item, plans [][]api.Item, set []int) []api.Item {
	left := has(stock...)
	for _, i := range set {
		for _, x := range plans[i] {
			left[place(x.Kind, x.Color)] -= x.N
		}
	}
	return itemsOf(left)
}

func worth(values, set []int) int {
	n := 0
	for _, i := range set {
		n += values[i]
	}
	return n
}

// wantChoice goes through all sets of plans.
func wantChoice(stock []api.Item, plans [][]api.Item, values []int) api.Choice {
	var take []int
	for _, set := range subsets(len(plans)) {
		if !wantTogether(stock, plans, set) {
			continue
		}
		d := worth(values, set) - worth(values, take)
		if d > 0 || d == 0 && (len(set) < len(take) || len(set) == len(take) && slices.Compare(set, take) < 0) {
			take = set
		}
	}
	return api.Choice{Take: take, Value: worth(values, take), Left: wantLeft(stock, plans, take)}
}

// built returns the plans that one builds.
func built(shares []uint8, by uint8) []int {
	var set []int
	for i, x := range shares {
		if x == by {
			set = append(set, i)
		}
	}
	return set
}

// wantShare goes through all answers in lexicographic order.
func wantShare(a, b []api.Item, plans [][]api.Item, values []int) ([]uint8, int) {
	var best []uint8
	most := -1
	var try func([]uint8)
	try = func(l []uint8) {
		if len(l) < len(plans) {
			for by := range uint8(3) {
				try(append(slices.Clone(l), by))
			}
			return
		}
		n := worth(values, built(l, 1)) + worth(values, built(l, 2))
		if n > most && wantTogether(a, plans, built(l, 1)) && wantTogether(b, plans, built(l, 2)) {
			best, most = l, n
		}
	}
	try(nil)
	return best, most
}

// orders returns all orders of some numbers.
func orders(l []int) [][]int {
	if len(l) == 0 {
		return [][]int{nil}
	}
	var all [][]int
	for i, x := range l {
		for _, rest := range orders(slices.Concat(l[:i], l[i+1:])) {
			all = append(all, append([]int{x}, rest...))
		}
	}
	return all
}

// upTo returns the numbers below n.
func upTo(n int) []int {
	var l []int
	for i := range n {
		l = append(l, i)
	}
	return l
}

// wantBetter tries all ways in which a group can give its own lots to its members.
func wantBetter(wishes [][]int, trade []int, group uint8) bool {
	var members []int
	for i := range wishes {
		if group>>i&1 == 1 {
			members = append(members, i)
		}
	}
	return slices.ContainsFunc(orders(members), func(lots []int) bool {
		gain := false
		for i, t := range members {
			d := slices.Index(wishes[t], trade[t]) - slices.Index(wishes[t], lots[i])
			if d < 0 {
				return false
			}
			gain = gain || d > 0
		}
		return gain
	})
}

// randomItems returns a stock of some of the first parts of three kinds in two colours.
func randomItems(r *rand.Rand, parts int) []api.Item {
	var l []api.Item
	for i := range 6 {
		if r.Intn(3) > 0 {
			l = append(l, item(i/2, uint8(i%2), 1+r.Intn(parts)))
		}
	}
	return l
}

func randomSwaps(r *rand.Rand) []api.Swap {
	var l []api.Swap
	for range r.Intn(7) {
		s := swap(r.Intn(3), uint8(r.Intn(2)), r.Intn(3), uint8(r.Intn(2)))
		if s.Kind != s.ByKind || s.Color != s.ByColor {
			l = append(l, s)
		}
	}
	return l
}

// randomPrices leaves out most parts now and then.
func randomPrices(r *rand.Rand, cents int) []api.Price {
	var l []api.Price
	most := 2 + r.Intn(20)
	for i := range 6 {
		if r.Intn(most) > 0 {
			l = append(l, price(i/2, uint8(i%2), r.Intn(cents)))
		}
	}
	return l
}

// randomPlans returns plans, and their values.
func randomPlans(r *rand.Rand, most int) ([][]api.Item, []int) {
	var plans [][]api.Item
	var values []int
	top := 1 + r.Intn(9)
	for range r.Intn(most + 1) {
		plans = append(plans, slices.DeleteFunc(randomItems(r, 4), func(api.Item) bool { return r.Intn(2) > 0 }))
		values = append(values, r.Intn(top))
	}
	return plans, values
}

func randomWishes(r *rand.Rand, n int) [][]int {
	var wishes [][]int
	for range n {
		wishes = append(wishes, r.Perm(n))
	}
	return wishes
}

func wantErr(t *testing.T, what any, got, want api.Errno) {
	t.Helper()
	if got != want {
		t.Errorf("%v: got error %d, want %d", what, got, want)
	}
}

// same holds slices against each other; nil and empty ones are the same.
func same[T comparable](t *testing.T, what any, got, want []T) {
	t.Helper()
	if !slices.Equal(got, want) {
		t.Errorf("%v: got %v, want %v", what, got, want)
	}
}

// isZero tells whether a result is a zero value, or an empty list.
func isZero(v any) bool {
	x := reflect.ValueOf(v)
	if x.Kind() == reflect.Slice {
		return x.Len() == 0
	}
	return x.IsZero()
}

// result is what a call returned beside its error.
type result struct {
	value any
	e     api.Errno
}

// of makes a result of what a call returns.
func of[T any](v T, e api.Errno) result { return result{v, e} }

// shared is what Share returns beside its error.
type shared struct {
	By  []uint8
	Sum int
}

// call is the arguments of all functions.
type call struct {
	a, b   []api.Item // the box and the needs, or two boxes
	swaps  []api.Swap
	uses   []api.Use
	counts []int
	prices []api.Price
	plans  [][]api.Item
	values []int
	wishes [][]int
	trade  []int
	group  uint8
}

// ofSwaps calls the functions with swaps.
func (c call) ofSwaps() map[string]result {
	return map[string]result{
		"Fill":      of(box.Fill(c.a, c.b, c.swaps)),
		"CheckUses": of(box.CheckUses(c.a, c.b, c.swaps, c.uses)),
		"Uses":      of(box.Uses(c.a, c.b, c.swaps, c.counts)),
		"Buy":       of(box.Buy(c.a, c.b, c.swaps, c.prices)),
	}
}

// ofPlans calls the functions with plans.
func (c call) ofPlans() map[string]result {
	by, n, e := box.Share(c.a, c.b, c.plans, c.values)
	return map[string]result{
		"Choose": of(box.Choose(c.a, c.plans, c.values)),
		"Share":  {shared{by, n}, e},
	}
}

// ofStocks calls the functions with two stocks.
func (c call) ofStocks() map[string]result {
	results := c.ofSwaps()
	results["Add"] = of(box.Add(c.a, c.b))
	results["Take"] = of(box.Take(c.a, c.b))
	results["Share"] = c.ofPlans()["Share"]
	return results
}

// ofWishes calls the functions with wishes.
func (c call) ofWishes() map[string]result {
	return map[string]result{
		"Trade":  of(box.Trade(c.wishes)),
		"Better": of(box.Better(c.wishes, c.trade, c.group)),
	}
}

func (c call) all() map[string]result {
	results := c.ofStocks()
	results["Choose"] = c.ofPlans()["Choose"]
	results["Check"] = result{0, box.Check(c.a)}
	results["CheckSwaps"] = result{0, box.CheckSwaps(c.swaps)}
	for name, r := range c.ofWishes() {
		results[name] = r
	}
	return results
}

// allFail checks that calls return an error, and zero values beside it.
func allFail(t *testing.T, what any, calls map[string]result, want api.Errno) {
	t.Helper()
	for name, r := range calls {
		if r.e != want || !isEmpty(r.value) {
			t.Errorf("%v: %s: got %v with error %d, want error %d", what, name, r.value, r.e, want)
		}
	}
}

// isEmpty is isZero also for a struct with empty lists.
func isEmpty(v any) bool {
	x := reflect.ValueOf(v)
	if x.Kind() != reflect.Struct {
		return isZero(v)
	}
	for i := range x.NumField() {
		if !isZero(x.Field(i).Interface()) {
			return false
		}
	}
	return true
}
