package order

import (
	"slices"

	"planchet/api"
)

// Lines returns all lines.
func Lines(o []int) ([][]int, api.Errno) {
	x, ok := read(o)
	if !ok {
		return nil, api.ErrArg
	}
	return x.lines(), api.OK
}

// Count returns how many lines there are.
func Count(o []int) (int, api.Errno) {
	x, ok := read(o)
	if !ok {
		return 0, api.ErrArg
	}
	return x.count(), api.OK
}

// Chance returns the chance of one before another.
func Chance(o []int, i, j int) (api.Frac, api.Errno) {
	x, ok := read(o)
	if !ok || !x.haveBoth(i, j) || i == j {
		return api.Frac{}, api.ErrArg
	}
	return lowest(x.before(i, j), x.count()), api.OK
}

// Height returns the average index.
func Height(o []int, i int) (api.Frac, api.Errno) {
	x, ok := read(o)
	if !ok || !x.haveBoth(i, i) {
		return api.Frac{}, api.ErrArg
	}
	// An index is how many others stand before, so its sum over the lines is counted by these.
	sum := 0
	for j := range x.n {
		if j != i {
			sum += x.before(j, i)
		}
	}
	return lowest(sum, x.count()), api.OK
}

// Even returns the most even pair.
func Even(o []int) ([2]int, api.Errno) {
	x, ok := read(o)
	if !ok {
		return [2]int{}, api.ErrArg
	}
	pairs := x.pairs()
	if len(pairs) == 0 {
		return [2]int{}, api.ErrNone
	}
	lines := x.count()
	return slices.MinFunc(pairs, func(p, q [2]int) int { return x.bias(p, lines) - x.bias(q, lines) }), api.OK
}

// lines returns all lines, rising.
func (x order) lines() [][]int {
	return x.turned().extend(nil, nil, x.all())
}

// extend appends to all the lines that begin with line, where below is the order turned over, and rest is the set of the elements that follow.
func (below order) extend(all [][]int, line []int, rest int) [][]int {
	if rest == 0 {
		return append(all, slices.Clone(line))
	}
	for e := range below.n {
		if has(rest, e) && below.above[e]&rest == 0 {
			all = below.extend(all, append(line, e), rest&^(1<<e))
		}
	}
	return all
}

// count returns how many lines there are. It counts those of the elements of each set, of which the last one has none of the set above it.
func (x order) count() int {
	var lines [1 << api.MaxOrder]int
	lines[0] = 1
	for set := 1; set <= x.all(); set++ {
		for e := range x.n {
			if has(set, e) && x.above[e]&set == 0 {
				lines[set] += lines[set&^(1<<e)]
			}
		}
	}
	return lines[x.all()]
}

// before returns in how many lines i stands before j.
func (x order) before(i, j int) int {
	if has(x.above[j], i) {
		return 0
	}
	return x.with(i, j).count()
}

// bias returns how far the chances of a pair are apart, times the number of lines.
func (x order) bias(pair [2]int, lines int) int {
	first := x.before(pair[0], pair[1])
	return max(first, lines-first) - min(first, lines-first)
}

func lowest(num, den int) api.Frac {
	a, b := num, den
	for b != 0 {
		a, b = b, a%b
	}
	return api.Frac{Num: num / a, Den: den / a}
}
