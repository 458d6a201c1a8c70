package order

import (
	"slices"
	"testing"

	"planchet/api"
)

// elements returns the elements of a set, rising.
func elements(set int) []int {
	var l []int
	for e := range 6 {
		if set&(1<<e) != 0 {
			l = append(l, e)
		}
	}
	return l
}

// idealsOf returns the sets that have, with each element, all that it is above of.
func idealsOf(o []int) []int {
	var l []int
	for set := range 1 << len(o) {
		ok := true
		for _, e := range elements(set) {
			for i := range o {
				if above(o, i, e) && set&(1<<i) == 0 {
					ok = false
				}
			}
		}
		if ok {
			l = append(l, set)
		}
	}
	return l
}

// freePairs counts the pairs of elements of a set that are free, each twice, and all of different ones.
func freePairs(o []int, set int) (frees, all int) {
	for _, i := range elements(set) {
		for _, j := range elements(set) {
			if i != j {
				all++
			}
			if free(o, i, j) {
				frees++
			}
		}
	}
	return frees, all
}

// antichains returns all antichains, rising.
func antichains(o []int) []int {
	var l []int
	for set := range 1 << len(o) {
		if frees, all := freePairs(o, set); frees == all {
			l = append(l, set)
		}
	}
	return l
}

// P7.5: all ideals, rising.
func TestIdeals(t *testing.T) {
	orders(61, func(o []int) {
		if l, e := Ideals(o); !slices.Equal(l, idealsOf(o)) || e != api.OK {
			t.Error(o, l, e)
		}
	})
}

// P7.5: Anti is the least of the antichains with the most elements.
func TestAnti(t *testing.T) {
	orders(61, func(o []int) {
		best := 0
		for _, set := range antichains(o) {
			if len(elements(set)) > len(elements(best)) {
				best = set
			}
		}
		if set, e := Anti(o); set != best || e != api.OK {
			t.Error(o, set, best, e)
		}
	})
}

// P7.5, P7.11: Chains are chains, rising, each element is in just one, and no fewer do, since there are as many as elements of Anti.
func TestChains(t *testing.T) {
	orders(61, func(o []int) {
		l, e := Chains(o)
		anti, _ := Anti(o)
		if len(l) != len(elements(anti)) || !slices.IsSorted(l) || e != api.OK {
			t.Error(o, l, anti, e)
		}
		all := 0
		for _, set := range l {
			if frees, _ := freePairs(o, set); frees != 0 || set == 0 || set&all != 0 {
				t.Error(o, l)
			}
			all |= set
		}
		if all != 1<<len(o)-1 {
			t.Error(o, l)
		}
	})
}

// P7.11: there are as many ideals as antichains, also the empty one.
func TestIdealsCount(t *testing.T) {
	orders(61, func(o []int) {
		if l, e := Ideals(o); len(l) != len(antichains(o)) || e != api.OK {
			t.Error(o, l, e)
		}
	})
	for o, want := range map[[3]int][]int{{0, 0, 0}: {0, 1, 2, 3, 4, 5, 6, 7}, {6, 4, 0}: {0, 1, 3, 7}, {0, 1, 3}: {0, 4, 6, 7}, {2, 0, 0}: {0, 1, 3, 4, 5, 7}} {
		if l, e := Ideals(o[:]); !slices.Equal(l, want) || e != api.OK {
			t.Error(o, l, e)
		}
	}
}
