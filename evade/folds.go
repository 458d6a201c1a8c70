package evade

import (
	"math/bits"

	"planchet/api"
)

// Folding returns folds that fold a family away. It never has to take a fold back: a fold makes no holes and fills none, and without holes each family of so few elements folds away (it takes 8 elements to be without holes and yet stuck).
func Folding(n int, f []int) ([][2]int, api.Errno) {
	x, ok := read(n, f)
	if !ok {
		return nil, api.ErrArg
	}
	var l [][2]int
	pair, ok := x.fold()
	for ok {
		l = append(l, pair)
		x = x.folded(pair)
		pair, ok = x.fold()
	}
	if !x.isPoint() {
		return nil, api.ErrNone
	}
	return l, api.OK
}

// Folds reports whether l are such folds.
func Folds(n int, f []int, l [][2]int) (bool, api.Errno) {
	x, ok := read(n, f)
	if !ok {
		return false, api.ErrArg
	}
	for _, pair := range l {
		if !x.folds(pair) {
			return false, api.OK
		}
		x = x.folded(pair)
	}
	return x.isPoint(), api.OK
}

// isPoint reports whether f is one set of one element and the empty set: no other family has two sets.
func (f family) isPoint() bool { return bits.OnesCount64(f.sets) == 2 }

// fold returns the first pair that folds, and whether there is one.
func (f family) fold() ([2]int, bool) {
	for _, set := range f.list() {
		if t, ok := f.partner(set); ok {
			return [2]int{set, t}, true
		}
	}
	return [2]int{}, false
}

// folds reports whether a pair, of any numbers, folds.
func (f family) folds(pair [2]int) bool {
	if pair[0]&^f.rest != 0 {
		return false
	}
	t, ok := f.partner(pair[0])
	return ok && t == pair[1]
}

func (f family) folded(pair [2]int) family {
	f.sets &^= bit(pair[0]) | bit(pair[1])
	return f
}

// partner returns the set with which a set folds, and whether there is one: none for a set that is not in f, since it is then a part of none in f. If it is a part of just one other set, that one has just one element more: the sets between them would be others.
func (f family) partner(set int) (int, bool) {
	others := f.sets & over(set) &^ bit(set)
	if set == 0 || bits.OnesCount64(others) != 1 {
		return 0, false
	}
	return bits.TrailingZeros64(others), true
}

// over returns the sets that a set is a part of, as a family has its sets.
func over(set int) uint64 {
	sets := ^uint64(0)
	for x, others := range lacking {
		if set>>x&1 == 1 {
			sets &^= others
		}
	}
	return sets
}
