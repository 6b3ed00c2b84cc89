package sort_test

import (
	"math"
	"math/big"
	"math/rand"
	"reflect"
	"slices"
	"testing"

	"studwork/api"
	"studwork/sort"
)

// The helpers here follow the words of the chapter as plainly as they can, and call no function of package sort, so that tests can hold its results against theirs.

var extremes = []int{math.MinInt, math.MinInt + 1, math.MinInt32, -1001, -2, 1101, math.MaxInt32, math.MaxInt - 1, math.MaxInt}

func list[T any](l ...T) []T { return l }

// given returns a list with another value at one place.
func given[T any](l []T, at int, x T) []T {
	l = slices.Clone(l)
	l[at] = x
	return l
}

// binsOf are the bins of all kinds: those that are given, and none for the others.
func binsOf(l ...int) []int {
	return append(slices.Clone(l), slices.Repeat(list(-1), 16-len(l))...)
}

func gates(numbers ...int) []api.Gate {
	var l []api.Gate
	for pair := range slices.Chunk(numbers, 2) {
		l = append(l, api.Gate{At: pair[0], Bin: pair[1]})
	}
	return l
}

// first is the belt of the chapter's examples.
func first() api.Belt {
	return api.Belt{Length: 20, Camera: 2, Slow: 2, Gates: gates(10, 0, 15, 1), Bins: binsOf(0, 1)}
}

// part is a part with some readings; without any there is one that is right.
func part(tick, kind int, readings ...int) api.Fed {
	if len(readings) == 0 {
		readings = list(kind)
	}
	return api.Fed{Tick: tick, Kind: kind, Readings: readings}
}

// parts are parts with one right reading each, of which ticks and kinds are given in turns.
func parts(numbers ...int) []api.Fed {
	var l []api.Fed
	for pair := range slices.Chunk(numbers, 2) {
		l = append(l, part(pair[0], pair[1]))
	}
	return l
}

// ticks are parts of the kind 0 at some ticks.
func ticks(l ...int) []api.Fed {
	var fed []api.Fed
	for _, n := range l {
		fed = append(fed, part(n, 0))
	}
	return fed
}

func fate(read, bin, tick int) api.Fate { return api.Fate{Read: read, Bin: bin, Tick: tick} }

func goesOut(tick, gate int) api.Swing { return api.Swing{Tick: tick, Gate: gate, Out: true} }

func goesBack(tick, gate int) api.Swing { return api.Swing{Tick: tick, Gate: gate} }

// chart is the table of the chapter's examples.
func chart() [][]int { return list(list(900, 50, 50), list(100, 800, 100)) }

// right is a table in which every reading is right.
func right(kinds int) [][]int {
	var table [][]int
	for k := range kinds {
		table = append(table, given(make([]int, kinds+1), k, 1000))
	}
	return table
}

func between(n, lo, hi int) bool { return lo <= n && n <= hi }

func allBetween(l []int, lo, hi int) bool {
	for _, n := range l {
		if !between(n, lo, hi) {
			return false
		}
	}
	return true
}

func wantBelt(b api.Belt) bool {
	if !between(b.Length, 2, 100) || !between(b.Camera, 0, b.Length-2) || !between(b.Slow, 0, 10) || len(b.Gates) > 8 {
		return false
	}
	for i, g := range b.Gates {
		if g.At <= b.Camera || g.At >= b.Length || !between(g.Bin, 0, 7) {
			return false
		}
		for _, h := range b.Gates[:i] {
			if h.At >= g.At || h.Bin == g.Bin {
				return false
			}
		}
	}
	return len(b.Bins) == 16 && allBetween(b.Bins, -1, 7)
}

func wantReadings(l []int) bool { return between(len(l), 1, 9) && allBetween(l, -1, 15) }

func wantFed(l []api.Fed) bool {
	for i, x := range l {
		if !between(x.Tick, 0, 1000) || i > 0 && l[i-1].Tick >= x.Tick || !between(x.Kind, 0, 15) || !wantReadings(x.Readings) {
			return false
		}
	}
	return len(l) <= 40
}

func times(l []int, n int) int {
	m := 0
	for _, x := range l {
		if x == n {
			m++
		}
	}
	return m
}

// wantRead is the kind that more readings say than any other one.
func wantRead(readings []int) int {
	for _, kind := range readings {
		ahead := kind >= 0
		for _, other := range readings {
			if other >= 0 && other != kind && times(readings, other) >= times(readings, kind) {
				ahead = false
			}
		}
		if ahead {
			return kind
		}
	}
	return -1
}

// wantGate is the index of the gate of a kind, or -1.
func wantGate(b api.Belt, kind int) int {
	for i, g := range b.Gates {
		if kind >= 0 && g.Bin == b.Bins[kind] {
			return i
		}
	}
	return -1
}

// wantCluster returns the first part and the one after the last one of the cluster of a part.
func wantCluster(b api.Belt, l []api.Fed, i int) (int, int) {
	from, to := i, i+1
	for from > 0 && l[from].Tick-l[from-1].Tick <= 2*b.Slow+1 {
		from--
	}
	for to < len(l) && l[to].Tick-l[to-1].Tick <= 2*b.Slow+1 {
		to++
	}
	return from, to
}

// wantSorted is the index of the gate by which some parts of a cluster are all sorted, or -1.
func wantSorted(b api.Belt, l []api.Fed) int {
	gate := wantGate(b, wantRead(l[0].Readings))
	for _, x := range l {
		if gate < 0 || wantGate(b, wantRead(x.Readings)) != gate || x.Tick-l[0].Tick+3*b.Slow+1 > b.Gates[gate].At-b.Camera {
			return -1
		}
	}
	return gate
}

func wantFate(b api.Belt, x api.Fed, gate int) api.Fate {
	if gate < 0 {
		return fate(wantRead(x.Readings), -1, x.Tick+b.Length)
	}
	return fate(wantRead(x.Readings), b.Gates[gate].Bin, x.Tick+b.Gates[gate].At)
}

func wantFates(b api.Belt, l []api.Fed) []api.Fate {
	var fates []api.Fate
	for i, x := range l {
		from, to := wantCluster(b, l, i)
		fates = append(fates, wantFate(b, x, wantSorted(b, l[from:to])))
	}
	return fates
}

// wantSwings goes through all ticks and gates in their order.
func wantSwings(b api.Belt, l []api.Fed) []api.Swing {
	isOut, isBack := map[api.Swing]bool{}, map[api.Swing]bool{}
	for i := range l {
		from, to := wantCluster(b, l, i)
		if g := wantSorted(b, l[from:to]); g >= 0 {
			isOut[goesOut(l[from].Tick+b.Gates[g].At-b.Slow, g)] = true
			isBack[goesBack(l[to-1].Tick+b.Gates[g].At+1, g)] = true
		}
	}
	var swings []api.Swing
	for tick := range 1200 {
		for g := range b.Gates {
			if s := goesOut(tick, g); isOut[s] {
				swings = append(swings, s)
			}
			if s := goesBack(tick, g); isBack[s] {
				swings = append(swings, s)
			}
		}
	}
	return swings
}

// apart is how many ticks one tick is after another one.
func apart(after, before int) *big.Int {
	return new(big.Int).Sub(big.NewInt(int64(after)), big.NewInt(int64(before)))
}

// wantSwingsValid holds each swing against all those before it.
func wantSwingsValid(b api.Belt, swings []api.Swing) bool {
	for i, s := range swings {
		if !between(s.Gate, 0, len(b.Gates)-1) {
			return false
		}
		isOut := false
		for _, o := range swings[:i] {
			if o.Tick > s.Tick || o.Tick == s.Tick && o.Gate > s.Gate {
				return false
			}
			if o.Gate == s.Gate {
				isOut = o.Out
				if o.Tick == s.Tick || apart(s.Tick, o.Tick).Cmp(big.NewInt(int64(b.Slow))) < 0 {
					return false
				}
			}
		}
		if s.Out == isOut {
			return false
		}
	}
	return true
}

// wantState tells whether a gate is moving at a tick, and if not, whether it is out.
func wantState(b api.Belt, swings []api.Swing, gate, tick int) (isMoving, isOut bool) {
	for _, s := range swings {
		if s.Gate != gate {
			continue
		}
		since := apart(tick, s.Tick)
		if since.Sign() >= 0 && since.Cmp(big.NewInt(int64(b.Slow))) < 0 {
			return true, false
		}
		if since.Sign() >= 0 {
			isOut = s.Out
		}
	}
	return false, isOut
}

// wantRun moves each part from place to place.
func wantRun(b api.Belt, l []api.Fed, swings []api.Swing) ([]api.Fate, api.Errno) {
	if !wantSwingsValid(b, swings) {
		return nil, api.ErrBad
	}
	var fates []api.Fate
	for _, x := range l {
		gate := -1
		for p := 0; p < b.Length && gate < 0; p++ {
			g := slices.IndexFunc(b.Gates, func(g api.Gate) bool { return g.At == p })
			if g < 0 {
				continue
			}
			isMoving, isOut := wantState(b, swings, g, x.Tick+p)
			if isMoving {
				return nil, api.ErrMoving
			}
			if isOut {
				gate = g
			}
		}
		fates = append(fates, wantFate(b, x, gate))
	}
	return fates, api.OK
}

func wantTable(table [][]int) bool {
	if !between(len(table), 1, 8) {
		return false
	}
	for _, row := range table {
		if len(row) != len(table)+1 || !allBetween(row, 0, 1000) {
			return false
		}
		total := 0
		for _, n := range row {
			total += n
		}
		if total != 1000 {
			return false
		}
	}
	return true
}

// wantChances goes through all that one reading after the other can say.
func wantChances(table [][]int, kind, n int) []int {
	k := len(table)
	counts := make([]int, k+1)
	var read func(readings []int, ways int)
	read = func(readings []int, ways int) {
		if len(readings) < n {
			for j, w := range table[kind][:k] {
				read(append(slices.Clone(readings), j), ways*w)
			}
			read(append(slices.Clone(readings), -1), ways*table[kind][k])
			return
		}
		as := wantRead(readings)
		if as < 0 {
			as = k
		}
		counts[as] += ways
	}
	read(nil, 1)
	return counts
}

// wantWrong adds up the parts of each kind in each bin, of which some do not belong there.
func wantWrong(table [][]int, n int, counts, bins []int) []api.Mix {
	mixes := make([]api.Mix, 8)
	for bin := range mixes {
		for k := range table {
			for j, ways := range wantChances(table, k, n)[:len(table)] {
				if bins[j] == bin {
					mixes[bin].Den += counts[k] * ways
				}
				if bins[j] == bin && bins[k] != bin {
					mixes[bin].Num += counts[k] * ways
				}
			}
		}
	}
	return mixes
}

func wantCan(passes []int, bins int) bool {
	total := new(big.Rat)
	for _, n := range passes {
		whole := new(big.Int).Exp(big.NewInt(int64(bins)), big.NewInt(int64(n)), nil)
		total.Add(total, new(big.Rat).SetFrac(big.NewInt(1), whole))
	}
	return total.Cmp(big.NewRat(1, 1)) <= 0
}

func wantCost(counts, passes []int) int {
	cost := 0
	for i, n := range counts {
		cost += n * passes[i]
	}
	return cost
}

// wantLeast tries all plans in which kinds with more parts have no more passes.
func wantLeast(counts []int, bins int) int {
	counts = slices.Clone(counts)
	slices.SortFunc(counts, func(a, b int) int { return b - a })
	least := math.MaxInt
	var try func(passes []int, room *big.Rat)
	try = func(passes []int, room *big.Rat) {
		if len(passes) == len(counts) {
			least = min(least, wantCost(counts, passes))
			return
		}
		from := 0
		if len(passes) > 0 {
			from = passes[len(passes)-1]
		}
		for n := from; n <= 11; n++ {
			whole := new(big.Int).Exp(big.NewInt(int64(bins)), big.NewInt(int64(n)), nil)
			left := new(big.Rat).Sub(room, new(big.Rat).SetFrac(big.NewInt(1), whole))
			if left.Sign() >= 0 {
				try(append(slices.Clone(passes), n), left)
			}
		}
	}
	try(nil, big.NewRat(1, 1))
	return least
}

// randomBelt returns a belt with up to 8 gates and more kinds in bins than not.
func randomBelt(r *rand.Rand) api.Belt {
	b := api.Belt{Length: 2 + r.Intn(99), Slow: r.Intn(1 + r.Intn(11))}
	b.Camera = r.Intn(1 + r.Intn(b.Length-1))
	bins := r.Perm(8)
	gates := r.Intn(9)
	for at := b.Camera + 1; at < b.Length && gates > 0; at++ {
		if r.Intn(b.Length-at) < gates {
			gates--
			b.Gates = append(b.Gates, api.Gate{At: at, Bin: bins[gates]})
		}
	}
	for range 16 {
		b.Bins = append(b.Bins, r.Intn(9)-1)
	}
	return b
}

// fitBelt returns a long belt with slow gates, most of which are far enough from the camera.
func fitBelt(r *rand.Rand) api.Belt {
	b := randomBelt(r)
	for len(b.Gates) < 2 || b.Gates[0].At-b.Camera < 3*b.Slow {
		b = randomBelt(r)
	}
	return b
}

// randomFed returns parts of a few kinds, about as far from each other as makes clusters of a few; not all of them are read right.
func randomFed(r *rand.Rand, slow int) []api.Fed {
	var l []api.Fed
	kinds, wrong := 1+r.Intn(4), 2+r.Intn(20)
	tick := r.Intn(30)
	for range r.Intn(41) {
		kind := r.Intn(kinds)
		x := part(tick, kind)
		for range r.Intn(9) {
			x.Readings = append(x.Readings, kind)
		}
		for i := range x.Readings {
			if r.Intn(wrong) == 0 {
				x.Readings[i] = r.Intn(17) - 1
			}
		}
		l = append(l, x)
		if tick += 1 + r.Intn(4*slow+4); tick > 1000 {
			break
		}
	}
	return l
}

// randomSwings returns swings that may be valid.
func randomSwings(r *rand.Rand, b api.Belt) []api.Swing {
	var l []api.Swing
	for g := range b.Gates {
		tick := r.Intn(60) - 30
		for i := range r.Intn(8) {
			l = append(l, api.Swing{Tick: tick, Gate: g, Out: i%2 == 0})
			tick += max(1, b.Slow) + r.Intn(1+r.Intn(60))
		}
	}
	slices.SortFunc(l, func(x, y api.Swing) int { return 10*(x.Tick-y.Tick) + x.Gate - y.Gate })
	return l
}

func randomTable(r *rand.Rand, kinds int) [][]int {
	var table [][]int
	for k := range kinds {
		row := make([]int, kinds+1)
		left := 1000
		for j := range row {
			if n := r.Intn(left + 1); r.Intn(3) > 0 && j != k {
				row[j] = n / (1 + r.Intn(9))
				left -= row[j]
			}
		}
		row[k] += left
		table = append(table, row)
	}
	return table
}

// randomNumbers returns so many numbers from the lowest one to the greatest one.
func randomNumbers(r *rand.Rand, size, lo, hi int) []int {
	var l []int
	for range size {
		l = append(l, lo+r.Intn(hi-lo+1))
	}
	return l
}

func wantErr(t *testing.T, what any, got, want api.Errno) {
	t.Helper()
	if got != want {
		t.Errorf("%v: got error %d, want %d", what, got, want)
	}
}

// same holds slices against each other; nil and empty ones are the same.
func same[T comparable](t *testing.T, what any, got, want []T) {
	t.Helper()
	if !slices.Equal(got, want) {
		t.Errorf("%v: got %v, want %v", what, got, want)
	}
}

// result is what a call returned beside its error.
type result struct {
	value any
	e     api.Errno
}

// of makes a result of what a call returns.
func of[T any](v T, e api.Errno) result { return result{v, e} }

// planned is what Plan returns beside its error.
type planned struct {
	Passes []int
	Cost   int
}

func plan(counts []int, bins int) result {
	passes, cost, e := sort.Plan(counts, bins)
	return result{planned{passes, cost}, e}
}

// isEmpty tells whether a result is a zero value, or has nothing but zero values and empty lists.
func isEmpty(v any) bool {
	switch x := reflect.ValueOf(v); x.Kind() {
	case reflect.Slice:
		return x.Len() == 0
	case reflect.Struct:
		for i := range x.NumField() {
			if !isEmpty(x.Field(i).Interface()) {
				return false
			}
		}
		return true
	default:
		return x.IsZero()
	}
}

// call is the arguments of all functions.
type call struct {
	b        api.Belt
	l        []api.Fed
	swings   []api.Swing
	readings []int
	table    [][]int
	kind, n  int
	counts   []int
	bins     []int // by kind of the table
	width    int   // the number of bins of a plan
	passes   []int
}

// ofBelt calls the functions with a belt and parts.
func (c call) ofBelt() map[string]result {
	return map[string]result{
		"Sort":   of(sort.Sort(c.b, c.l)),
		"Swings": of(sort.Swings(c.b, c.l)),
		"Run":    of(sort.Run(c.b, c.l, c.swings)),
	}
}

// ofTable calls the functions with a table.
func (c call) ofTable() map[string]result {
	return map[string]result{
		"Chances": of(sort.Chances(c.table, c.kind, c.n)),
		"Wrong":   of(sort.Wrong(c.table, c.n, c.counts, c.bins)),
	}
}

// ofPlans calls the functions with numbers of bins.
func (c call) ofPlans() map[string]result {
	return map[string]result{
		"Plan": plan(c.counts, c.width),
		"Cost": of(sort.Cost(c.counts, c.passes, c.width)),
	}
}

func (c call) all() map[string]result {
	results := map[string]result{
		"CheckBelt":  {0, sort.CheckBelt(c.b)},
		"CheckFed":   {0, sort.CheckFed(c.l)},
		"CheckTable": {0, sort.CheckTable(c.table)},
		"Read":       of(sort.Read(c.readings)),
	}
	for _, some := range list(c.ofBelt(), c.ofTable(), c.ofPlans()) {
		for name, r := range some {
			results[name] = r
		}
	}
	return results
}

// allFail checks that calls return an error, and zero values beside it.
func allFail(t *testing.T, what any, calls map[string]result, want api.Errno) {
	t.Helper()
	for name, r := range calls {
		if r.e != want || !isEmpty(r.value) {
			t.Errorf("%v: %s: got %v with error %d, want error %d", what, name, r.value, r.e, want)
		}
	}
}
