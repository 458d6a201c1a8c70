package talk

import (
	"math/bits"
	"slices"

	"planchet/api"
)

// Fool returns the first greatest fooling set.
func Fool(t [][]int, v int) ([][2]int, api.Errno) {
	x, ok := read(t)
	if !ok || !isValue(v) {
		return nil, api.ErrArg
	}
	return x.mostFooling(v), api.OK
}

// Fools reports whether l is a fooling set. It ends with the first entry that does not go with those before it, so long slices take no longer.
func Fools(t [][]int, v int, l [][2]int) (bool, api.Errno) {
	x, ok := read(t)
	if !ok || !isValue(v) {
		return false, api.ErrArg
	}
	for i, entry := range l {
		if !isIndex(entry[row]) || !isIndex(entry[column]) || !x.has(entry, v) || !x.goes(entry, v, l[:i]) {
			return false, api.OK
		}
	}
	return true, api.OK
}

func (t *table) has(entry [2]int, v int) bool { return t.with[v]&bit(entry) != 0 }

// goes reports whether a fooling set of v, with an entry with v put behind it, is one.
func (t *table) goes(entry [2]int, v int, l [][2]int) bool {
	for _, other := range l {
		if bit(other) >= bit(entry) {
			return false
		}
		if t.has([2]int{entry[row], other[column]}, v) && t.has([2]int{other[row], entry[column]}, v) {
			return false
		}
	}
	return true
}

// mostFooling tries the fooling sets of v in their order, so the first one with the most entries stays.
func (t *table) mostFooling(v int) [][2]int {
	var l, most [][2]int
	var extend func(rest int)
	extend = func(rest int) {
		if len(l) > len(most) {
			most = slices.Clone(l)
		}
		for ; rest != 0; rest &= rest - 1 {
			n := bits.TrailingZeros(uint(rest))
			entry := [2]int{n / api.MaxTable, n % api.MaxTable}
			if t.goes(entry, v, l) {
				l = append(l, entry)
				extend(rest & (rest - 1))
				l = l[:len(l)-1]
			}
		}
	}
	extend(t.with[v])
	return most
}
