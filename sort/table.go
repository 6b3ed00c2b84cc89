package sort

import "studwork/api"

// Limits of tables of readings: how many kinds one has at most, and how many readings of a part it is asked for.
const (
	maxRows  = 8
	maxReads = 5
)

// CheckTable returns ErrBad unless a table is one (P9.3).
func CheckTable(table [][]int) api.Errno {
	if !within(len(table), 1, maxRows) {
		return api.ErrBad
	}
	for _, row := range table {
		if !areNumbers(row, len(table)+1, 0, api.MaxWhole) || sum(row) != api.MaxWhole {
			return api.ErrBad
		}
	}
	return api.OK
}

func sum(l []int) int {
	total := 0
	for _, n := range l {
		total += n
	}
	return total
}

// Chances returns the chances of a kind for some readings (P9.3).
func Chances(table [][]int, kind, n int) ([]int, api.Errno) {
	if e := CheckTable(table); e != api.OK {
		return nil, e
	}
	if !within(kind, 0, len(table)-1) || !within(n, 1, maxReads) {
		return nil, api.ErrArg
	}
	return chances(table[kind], n), api.OK
}

// chances goes through how many of some readings can say each kind, and the others nothing, and counts the ways of that. There are many fewer of these than of what one reading after the other can say.
func chances(row []int, readings int) []int {
	nothing := len(row) - 1
	says := make([]int, nothing)
	counts := make([]int, len(row))
	var say func(kind, left, ways int)
	say = func(kind, left, ways int) {
		if kind == nothing {
			counts[place(most(says), nothing)] += ways * power(row[nothing], left)
			return
		}
		for n := range left + 1 {
			says[kind] = n
			say(kind+1, left-n, ways)
			// One more of those that are left says it; each way is found n + 1 times, by which one of these was the last.
			ways = ways * (left - n) * row[kind] / (n + 1)
		}
	}
	say(0, readings, 1)
	return counts
}

// place returns where the chances have what a part is read as.
func place(kind, nothing int) int {
	if kind == none {
		return nothing
	}
	return kind
}

func power(n, to int) int {
	p := 1
	for range to {
		p *= n
	}
	return p
}

// Wrong returns how much in each bin is wrong (P9.3).
func Wrong(table [][]int, n int, counts, bins []int) ([]api.Mix, api.Errno) {
	if e := CheckTable(table); e != api.OK {
		return nil, e
	}
	kinds := len(table)
	if !within(n, 1, maxReads) || !areNumbers(counts, kinds, 0, api.MaxNumber) || !areBins(bins, kinds) {
		return nil, api.ErrArg
	}
	// The greatest sum is 8 * 1000 * 1000^5, which is less than 2^63.
	mixes := make([]api.Mix, api.MaxBins)
	for kind, row := range table {
		ways := chances(row, n)
		for read, bin := range bins {
			if bin == none {
				continue
			}
			parts := counts[kind] * ways[read]
			mixes[bin].Den += parts
			if bins[kind] != bin {
				mixes[bin].Num += parts
			}
		}
	}
	return mixes, api.OK
}
