package ranks

import (
	"slices"

	"planchet/api"
)

// Parts returns all parts.
func Parts(t []int) ([]int, api.Errno) {
	if !valid(t) {
		return nil, api.ErrArg
	}
	reach := reached(t)
	var parts []int
	for rest := everyone(t); rest != 0; {
		part := 0
		for p := range players(rest) {
			if reach[p] == rest {
				part |= 1 << p
			}
		}
		parts = append(parts, part)
		rest &^= part
	}
	return parts, api.OK
}

// Against returns how many pairs an order goes against.
func Against(t, order []int) (int, api.Errno) {
	if !valid(t) || !isOrder(order, len(t)) {
		return 0, api.ErrArg
	}
	against := 0
	for rest := everyone(t); len(order) > 0; order = order[1:] {
		rest &^= 1 << order[0]
		against += size(rest &^ t[order[0]])
	}
	return against, api.OK
}

// Order returns the first best order.
func Order(t []int) ([]int, api.Errno) {
	if !valid(t) {
		return nil, api.ErrArg
	}
	best := firstBest(t)
	var order []int
	for rest := everyone(t); rest != 0; {
		p := best[rest].player
		order = append(order, p)
		rest &^= 1 << p
	}
	return order, api.OK
}

// reached returns for each player whom it reaches by beats: itself, those it beats, those whom they beat, and so on.
func reached(t []int) []int {
	reach := slices.Clone(t)
	for p := range reach {
		reach[p] |= 1 << p
	}
	for via := range reach {
		for p := range reach {
			if beats(reach, p, via) {
				reach[p] |= reach[via]
			}
		}
	}
	return reach
}

func isOrder(order []int, players int) bool {
	if len(order) != players {
		return false
	}
	for i, p := range order {
		if p < 0 || p >= players || slices.Contains(order[:i], p) {
			return false
		}
	}
	return true
}

// start is how the first best order of some players begins, and how many pairs it goes against.
type start struct{ player, against int }

// firstBest returns for each set of players how their first best order begins. What is best for those behind the first player does not depend on this player, so smaller sets settle the greater ones.
func firstBest(t []int) []start {
	best := make([]start, 1<<len(t))
	for set := 1; set < len(best); set++ {
		first := start{against: maxPairs + 1}
		for p := range players(set) {
			others := set &^ (1 << p)
			against := size(others&^t[p]) + best[others].against
			if against < first.against {
				first = start{p, against}
			}
		}
		best[set] = first
	}
	return best
}
