package sure

import (
	"slices"
	"testing"

	"planchet/api"
)

// allCliques returns in the document's words the sets of which any two signals are neighbours.
func allCliques(g []int) []int {
	var l []int
	for set := 1; set < 1<<len(g); set++ {
		ok := true
		for _, i := range members(set) {
			for _, j := range members(set) {
				ok = ok && (i == j || neighbours(g, i, j))
			}
		}
		if ok {
			l = append(l, set)
		}
	}
	return l
}

// fewestCliques returns the fewest cliques that have all signals together.
func fewestCliques(g []int) []int {
	sets := allCliques(g)
	for n := 1; ; n++ {
		if l := coverOf(sets, n, 1<<len(g)-1); l != nil {
			return l
		}
	}
}

// coverOf returns n of the sets that have together what is in need, or nil.
func coverOf(sets []int, n, need int) []int {
	if n == 0 {
		return nil
	}
	for i, set := range sets {
		if need&^set == 0 {
			return []int{set}
		}
		if l := coverOf(sets[i+1:], n-1, need&^set); l != nil {
			return append(l, set)
		}
	}
	return nil
}

// P5.4: all sets, and the least number of them that have all signals.
func TestCliques(t *testing.T) {
	graphs(37, func(g []int) {
		if l, e := Cliques(g); !slices.Equal(l, allCliques(g)) || e != api.OK {
			t.Error(g, l, e)
		}
		if n, e := Cover(g); n != len(fewestCliques(g)) || e != api.OK {
			t.Error(g, n, e)
		}
	})
	for _, g := range badGraphs {
		if l, e := Cliques(g); len(l) != 0 || e != api.ErrArg {
			t.Error(len(g), l, e)
		}
		if n, e := Cover(g); n != 0 || e != api.ErrArg {
			t.Error(len(g), n, e)
		}
	}
}

// P5.5: the least rank of all fitting matrices.
func TestFit(t *testing.T) {
	for n := 1; n <= 5; n++ {
		everyGraph(n, 1, func(g []int) {
			if f, e := Fit(g); f != leastRank(g) || e != api.OK {
				t.Error(g, f, e)
			}
		})
	}
	for _, g := range append(badGraphs, graphOf(6, 0), graphOf(6, 1<<15-1)) {
		if f, e := Fit(g); f != 0 || e != api.ErrArg {
			t.Error(len(g), f, e)
		}
	}
}

// leastRank returns the least rank, by a search of all fitting matrices.
func leastRank(g []int) int {
	best := len(g)
	var rows [5]int
	var set func(i int)
	set = func(i int) {
		if i == len(g) {
			best = min(best, rank(rows))
			return
		}
		for row := range 1 << len(g) {
			if row&^g[i] == 1<<i {
				rows[i] = row
				set(i + 1)
			}
		}
	}
	set(0)
	return best
}

// rank returns the rank modulo 2.
func rank(rows [5]int) int {
	n := 0
	for i := range rows {
		if rows[i] == 0 {
			continue
		}
		n++
		low := rows[i] & -rows[i]
		for j := i + 1; j < len(rows); j++ {
			if rows[j]&low != 0 {
				rows[j] ^= rows[i]
			}
		}
	}
	return n
}
