package box

import (
	"slices"

	"studwork/api"
)

// filling is what the items of some needs get of those of a box.
type filling struct {
	needs []api.Item
	may   [][]int // for each item of the needs, the items of the box whose parts may fill it
	used  [][]int // for each item of the needs, how many parts it gets of each item of the box
	got   []int   // for each item of the needs, how many parts it gets
	left  []int   // for each item of the box, how many parts of it are left
}

// emptyFilling returns the filling in which nothing is used.
func emptyFilling(box, needs []api.Item, swaps []api.Swap) (*filling, api.Errno) {
	if e := checkAll(box, needs); e != api.OK {
		return nil, e
	}
	if e := CheckSwaps(swaps); e != api.OK {
		return nil, e
	}
	f := &filling{needs: needs, got: make([]int, len(needs))}
	for _, x := range box {
		f.left = append(f.left, x.N)
	}
	for _, x := range needs {
		parts := fillers(itemPart(x), swaps)
		var may []int
		for by, y := range box {
			if slices.Contains(parts, itemPart(y)) {
				may = append(may, by)
			}
		}
		f.may = append(f.may, may)
		f.used = append(f.used, make([]int, len(box)))
	}
	return f, api.OK
}

// missing returns how many parts an item of the needs does not get.
func (f *filling) missing(need int) int { return f.needs[need].N - f.got[need] }

// give lets an item of the needs get as many parts as possible, up to a number, while each of the others gets as many as before.
func (f *filling) give(need, most int) {
	for f.got[need] < most {
		n := f.exchange(need, most-f.got[need])
		if n == 0 {
			return
		}
		f.got[need] += n
	}
}

// exchange lets an item of the needs use more parts, up to a number, and returns how many: ones that are left, or ones of another item, which finds as many others for them. It is 0 only if there are none.
func (f *filling) exchange(need, most int) int {
	tried := make([]bool, len(f.left))
	var find func(need, most int) int
	find = func(need, most int) int {
		for _, by := range f.may[need] {
			if tried[by] {
				continue
			}
			tried[by] = true
			n := min(most, f.left[by])
			f.left[by] -= n
			for other := 0; n == 0 && other < len(f.used); other++ {
				if has := f.used[other][by]; has > 0 {
					n = find(other, min(most, has))
					f.used[other][by] -= n
				}
			}
			if n > 0 {
				f.used[need][by] += n
				return n
			}
		}
		return 0
	}
	return find(need, most)
}

// short returns, for a filling with the greatest total, the least set of items that lacks most: those that miss something, and those that use what one of the set may use.
func (f *filling) short() []int {
	in := make([]bool, len(f.needs))
	var join func(int)
	join = func(need int) {
		if in[need] {
			return
		}
		in[need] = true
		for _, by := range f.may[need] {
			for other := range f.used {
				if f.used[other][by] > 0 {
					join(other)
				}
			}
		}
	}
	for need := range f.needs {
		if f.missing(need) > 0 {
			join(need)
		}
	}
	var short []int
	for need, is := range in {
		if is {
			short = append(short, need)
		}
	}
	return short
}

// total returns how many parts are used.
func (f *filling) total() int {
	sum := 0
	for _, n := range f.got {
		sum += n
	}
	return sum
}

// uses returns the list of the uses.
func (f *filling) uses() []api.Use {
	var l []api.Use
	for need, used := range f.used {
		for by, n := range used {
			if n > 0 {
				l = append(l, api.Use{Need: need, By: by, N: n})
			}
		}
	}
	return l
}

// use adds a use, and returns false if the filling has no room for it.
func (f *filling) use(u api.Use) bool {
	if !within(u.Need, 0, len(f.needs)-1) || !slices.Contains(f.may[u.Need], u.By) {
		return false
	}
	if !within(u.N, 1, min(f.missing(u.Need), f.left[u.By])) {
		return false
	}
	f.used[u.Need][u.By] += u.N
	f.got[u.Need] += u.N
	f.left[u.By] -= u.N
	return true
}
