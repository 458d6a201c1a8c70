package evade

import (
	"slices"

	"planchet/api"
)

const (
	minGraph = 2
	maxGraph = 4
)

// Property reports whether a family is a property.
func Property(m int, f []int) (bool, api.Errno) {
	if !isGraph(m) {
		return false, api.ErrArg
	}
	x, ok := read(len(pairs(m)), f)
	if !ok {
		return false, api.ErrArg
	}
	return x == x.spread(m), api.OK
}

// Spread returns the least property with graphs.
func Spread(m int, graphs []int) ([]int, api.Errno) {
	if !isGraph(m) {
		return nil, api.ErrArg
	}
	x, ok := gather(len(pairs(m)), graphs)
	if !ok {
		return nil, api.ErrArg
	}
	return x.spread(m).list(), api.OK
}

// isGraph reports whether graphs have m nodes.
func isGraph(m int) bool { return m >= minGraph && m <= maxGraph }

// pairs returns the pairs of m nodes, in order.
func pairs(m int) [][2]int {
	var l [][2]int
	for i := range m {
		for j := i + 1; j < m; j++ {
			l = append(l, [2]int{i, j})
		}
	}
	return l
}

// spread returns the least property of graphs with m nodes that has all of f. Any exchange is made of those of a node and the next one, and does not change what is a part of what.
func (f family) spread(m int) family {
	for {
		more := f
		for node := range m - 1 {
			more.sets |= more.exchanged(m, node).sets
		}
		if more == f {
			return f.closed()
		}
		f = more
	}
}

// exchanged returns the graphs of f with a node and the next one exchanged.
func (f family) exchanged(m, node int) family {
	become := places(m, node)
	x := family{rest: f.rest}
	for _, graph := range f.list() {
		moved := 0
		for from, to := range become {
			moved |= graph >> from & 1 << to
		}
		x.sets |= bit(moved)
	}
	return x
}

// places returns which pair each pair becomes when a node and the next one are exchanged.
func places(m, node int) []int {
	all := pairs(m)
	l := make([]int, len(all))
	for from, pair := range all {
		i, j := other(pair[0], node), other(pair[1], node)
		l[from] = slices.Index(all, [2]int{min(i, j), max(i, j)})
	}
	return l
}

// other returns what i becomes when node and the next one are exchanged.
func other(i, node int) int {
	switch i {
	case node:
		return node + 1
	case node + 1:
		return node
	}
	return i
}
