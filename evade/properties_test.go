package evade

import (
	"math"
	"slices"
	"testing"

	"planchet/api"
)

// sequences returns all sequences of n numbers, each once.
func sequences(n int) [][]int {
	if n == 0 {
		return [][]int{nil}
	}
	var l [][]int
	for _, s := range sequences(n - 1) {
		for at := range n {
			l = append(l, slices.Insert(slices.Clone(s), at, n-1))
		}
	}
	return l
}

// numbers has for each two of m nodes the number of their pair.
func numbers(m int) [4][4]int {
	var l [4][4]int
	at := 0
	for i := range m {
		for j := i + 1; j < m; j++ {
			l[i][j], l[j][i] = at, at
			at++
		}
	}
	return l
}

// renamed returns a graph whose nodes have other names.
func renamed(m, graph int, names []int) int {
	l := numbers(m)
	g := 0
	for i := range m {
		for j := range i {
			if graph&(1<<l[i][j]) != 0 {
				g |= 1 << l[names[i]][names[j]]
			}
		}
	}
	return g
}

// isProperty reports whether no names change a family.
func isProperty(m int, f []int) bool {
	for _, names := range sequences(m) {
		for _, graph := range f {
			if !slices.Contains(f, renamed(m, graph, names)) {
				return false
			}
		}
	}
	return true
}

var pairsOf = map[int]int{2: 1, 3: 3, 4: 6}

// P8.6: Property, over all families of the pairs of 2 and 3 nodes, and some of 4.
func TestProperty(t *testing.T) {
	yes, no := 0, 0
	check := func(m int, f []int) {
		want := isProperty(m, f)
		if want {
			yes++
		} else {
			no++
		}
		if ok, e := Property(m, f); ok != want || e != api.OK {
			t.Fatal(m, f, ok, e)
		}
	}
	families(1, func(sets uint64) { check(2, members(sets)) })
	families(3, func(sets uint64) { check(3, members(sets)) })
	at := 0
	families(6, func(sets uint64) {
		if at%10007 == 0 {
			check(4, members(sets))
		}
		at++
	})
	properties(func(m int, f []int) {
		check(m, f)
		// One of the greatest graphs less is no property, unless no other one is like it.
		for i, graph := range f {
			less := slices.Delete(slices.Clone(f), i, i+1)
			if !slices.ContainsFunc(less, func(other int) bool { return isPart(graph, other) }) {
				check(m, less)
			}
		}
	})
	if yes < 30 || no < 500 {
		t.Error(yes, no)
	}
}

// kinds returns one graph of each kind, of those that are the same but for their names the least one.
func kinds(m int) []int {
	var l []int
	for graph := range 1 << pairsOf[m] {
		if !slices.ContainsFunc(sequences(m), func(names []int) bool { return renamed(m, graph, names) < graph }) {
			l = append(l, graph)
		}
	}
	return l
}

// leastWith returns the least property with graphs, from all names for all graphs.
func leastWith(m int, graphs []int) []int {
	found := [64]bool{}
	for _, graph := range graphs {
		for _, names := range sequences(m) {
			found[renamed(m, graph, names)] = true
		}
	}
	var l []int
	for graph := range 1 << pairsOf[m] {
		for over := range found {
			if found[over] && isPart(graph, over) {
				l = append(l, graph)
				break
			}
		}
	}
	return l
}

// properties calls f with all properties, each at least once.
func properties(f func(m int, property []int)) {
	for m := 2; m <= 4; m++ {
		all := kinds(m)
		seen := map[uint64]bool{}
		for which := range 1 << len(all) {
			var graphs []int
			for i, graph := range all {
				if which&(1<<i) != 0 {
					graphs = append(graphs, graph)
				}
			}
			property := leastWith(m, graphs)
			if !seen[setsOf(property)] {
				seen[setsOf(property)] = true
				f(m, property)
			}
		}
	}
}

// P8.12: a property that is neither empty nor all is never early; Close of it is itself.
func TestNeverEarly(t *testing.T) {
	count := map[int]int{}
	properties(func(m int, f []int) {
		count[m]++
		n := pairsOf[m]
		early, e := Early(n, f)
		if early != (len(f) == 0 || len(f) == 1<<n) || e != api.OK {
			t.Error(m, f, early, e)
		}
		if closed, e := Close(n, f); !slices.Equal(closed, f) || e != api.OK {
			t.Error(m, f, closed, e)
		}
		if spread, e := Spread(m, f); !slices.Equal(spread, f) || e != api.OK {
			t.Error(m, f, spread, e)
		}
	})
	if count[2] != 3 || count[3] != 5 || count[4] != 24 {
		t.Error(count)
	}
}

// P8.6, P8.12: Spread, of graphs in whatever order and however often they are given, is a property; Close of it is itself.
func TestSpread(t *testing.T) {
	r := uint64(7)
	check := func(m int, graphs []int) {
		f, e := Spread(m, graphs)
		if !slices.Equal(f, leastWith(m, graphs)) || e != api.OK {
			t.Fatal(m, graphs, f, e)
		}
		if ok, e := Property(m, f); !ok || e != api.OK {
			t.Fatal(m, graphs, f, ok, e)
		}
		if closed, e := Close(pairsOf[m], f); !slices.Equal(closed, f) || e != api.OK {
			t.Fatal(m, graphs, f, closed, e)
		}
	}
	for m := 2; m <= 4; m++ {
		check(m, nil)
		check(m, slices.Repeat([]int{1}, 64))
		for one := range 1 << pairsOf[m] {
			check(m, []int{one})
			for other := range one {
				check(m, []int{one, other})
			}
		}
		for range 200 {
			graphs := make([]int, next(&r, 65))
			for i := range graphs {
				graphs[i] = next(&r, 1<<pairsOf[m])
			}
			check(m, graphs)
		}
	}
}

// P8.6: the pairs are numbered 0 1, 0 2, .., 1 2, ..: a triangle and a path of 4 nodes.
func TestPairs(t *testing.T) {
	for _, x := range []struct{ graph, kinds int }{{0b001011, 4}, {0b101001, 12}, {0b000111, 4}, {0b100001, 3}} {
		f, e := Spread(4, []int{x.graph})
		if e != api.OK {
			t.Error(x, e)
		}
		most := slices.DeleteFunc(f, func(graph int) bool { return len(elements(graph)) < len(elements(x.graph)) })
		if len(most) != x.kinds {
			t.Error(x, most)
		}
	}
}

// P8.6: what Property and Spread do not take.
func TestPropertiesBad(t *testing.T) {
	for _, m := range []int{-1, 0, 1, 5, 6, 64, math.MaxInt, math.MinInt, 1 << 32, 1<<32 + 3} {
		for _, l := range [][]int{nil, {}, {0}, {0, 1}} {
			if ok, e := Property(m, l); ok || e != api.ErrArg {
				t.Error(m, l, ok, e)
			}
			if f, e := Spread(m, l); len(f) != 0 || e != api.ErrArg {
				t.Error(m, l, f, e)
			}
		}
	}
	for m, n := range pairsOf {
		for _, s := range []int{-1, -2, 1 << n, 1<<n + 1, 64, 128, math.MaxInt, math.MinInt, 1 << 32, 1<<32 + 1} {
			for _, l := range [][]int{{s}, {0, s}, {s, 0}, {0, 1, s}} {
				if ok, e := Property(m, l); ok || e != api.ErrArg {
					t.Error(m, l, ok, e)
				}
				if f, e := Spread(m, l); len(f) != 0 || e != api.ErrArg {
					t.Error(m, l, f, e)
				}
			}
		}
		for _, many := range []int{65, 66, 1000000} {
			if f, e := Spread(m, make([]int, many)); len(f) != 0 || e != api.ErrArg {
				t.Error(m, many, f, e)
			}
		}
		for _, l := range [][]int{{1}, {1, 0}, {0, 0}, {0, 1, 1}, append(whole(n), 1<<n), make([]int, 1000000)} {
			if ok, e := Property(m, l); ok || e != api.ErrArg {
				t.Error(m, l, ok, e)
			}
		}
	}
	for _, l := range [][]int{{0, 3}, {0, 1, 2, 4, 7}, {0, 1, 3}, {0, 2, 1, 4}} {
		if ok, e := Property(3, l); ok || e != api.ErrArg {
			t.Error(l, ok, e)
		}
	}
}
