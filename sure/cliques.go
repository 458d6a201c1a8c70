package sure

import "planchet/api"

// Cliques returns all sets of neighbours.
func Cliques(g []int) ([]int, api.Errno) {
	if !isGraph(g) {
		return nil, api.ErrArg
	}
	return cliques(g), api.OK
}

// Cover returns how many such sets are needed.
func Cover(g []int) (int, api.Errno) {
	if !isGraph(g) {
		return 0, api.ErrArg
	}
	sets := cliques(g)
	var need [1 << api.MaxSignals]int
	for signals := 1; signals < 1<<len(g); signals++ {
		need[signals] = len(g)
		for _, set := range sets {
			// Without the set's signals the number is smaller, and what it needs is known, or the same, which changes nothing.
			need[signals] = min(need[signals], 1+need[signals&^set])
		}
	}
	return need[1<<len(g)-1], api.OK
}

// cliques returns all sets, not empty, of which any two signals are neighbours, rising.
func cliques(g []int) []int {
	var l []int
next:
	for set := 1; set < 1<<len(g); set++ {
		for i, neighbours := range g {
			if has(set, i) && set&^neighbours != 1<<i {
				continue next
			}
		}
		l = append(l, set)
	}
	return l
}
