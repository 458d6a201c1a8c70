package order

import (
	"math/bits"
	"slices"

	"planchet/api"
)

// Ideals returns all ideals.
func Ideals(o []int) ([]int, api.Errno) {
	x, ok := read(o)
	if !ok {
		return nil, api.ErrArg
	}
	var l []int
	for set := range 1 << x.n {
		if x.isIdeal(set) {
			l = append(l, set)
		}
	}
	return l, api.OK
}

// Chains returns the fewest chains.
func Chains(o []int) ([]int, api.Errno) {
	x, ok := read(o)
	if !ok {
		return nil, api.ErrArg
	}
	best := x.covers()
	var l []int
	for rest := x.all(); rest != 0; {
		chain := best[rest].chain
		l = append(l, chain)
		rest &^= chain
	}
	slices.Sort(l)
	return l, api.OK
}

// Anti returns the least greatest antichain.
func Anti(o []int) (int, api.Errno) {
	x, ok := read(o)
	if !ok {
		return 0, api.ErrArg
	}
	greatest := 0
	for set := range 1 << x.n {
		if x.isAntichain(set) && size(set) > size(greatest) {
			greatest = set
		}
	}
	return greatest, api.OK
}

func size(set int) int { return bits.OnesCount(uint(set)) }

// over returns what is above any element of a set.
func (x order) over(set int) int {
	over := 0
	for e := range x.n {
		if has(set, e) {
			over |= x.above[e]
		}
	}
	return over
}

func (x order) isIdeal(set int) bool { return x.over(x.all()&^set)&set == 0 }

func (x order) isAntichain(set int) bool { return x.over(set)&set == 0 }

// isChain reports whether each two elements of a set have one above the other: then as many are above one as there are pairs.
func (x order) isChain(set int) bool {
	pairs := 0
	for e := range x.n {
		if has(set, e) {
			pairs += size(x.above[e] & set)
		}
	}
	return pairs == size(set)*(size(set)-1)/2
}

// cover is a chain of the fewest chains that cover some elements, and their number.
type cover struct{ chain, chains int }

// covers returns for each set of elements a cover with the fewest chains.
func (x order) covers() []cover {
	best := make([]cover, 1<<x.n)
	for set := 1; set < len(best); set++ {
		best[set].chains = x.n + 1
		for chain := set; chain != 0; chain = (chain - 1) & set {
			if n := 1 + best[set&^chain].chains; n < best[set].chains && x.isChain(chain) {
				best[set] = cover{chain, n}
			}
		}
	}
	return best
}
