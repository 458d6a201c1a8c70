package ranks

import (
	"slices"

	"planchet/api"
)

// Cycles returns all cycles.
func Cycles(t []int) ([][3]int, api.Errno) {
	if !valid(t) {
		return nil, api.ErrArg
	}
	return cycles(t), api.OK
}

// Pack returns a greatest packing.
func Pack(t []int) ([][3]int, api.Errno) {
	if !valid(t) {
		return nil, api.ErrArg
	}
	return packed(cycles(t)), api.OK
}

// Clear returns how many players can be without a cycle.
func Clear(t []int) (int, api.Errno) {
	if !valid(t) {
		return 0, api.ErrArg
	}
	all := cycles(t)
	most := 0
	for set := range everyone(t) + 1 {
		inSet := func(c [3]int) bool { return members(c)&^set == 0 }
		if !slices.ContainsFunc(all, inSet) {
			most = max(most, size(set))
		}
	}
	return most, api.OK
}

// cycles takes the players in their order, so the cycles are rising.
func cycles(t []int) [][3]int {
	var all [][3]int
	for a := range t {
		greater := everyone(t) &^ (1<<(a+1) - 1)
		for b := range players(t[a] & greater) {
			for c := range players(t[b] & greater) {
				if beats(t, c, a) {
					all = append(all, [3]int{a, b, c})
				}
			}
		}
	}
	return all
}

func members(c [3]int) int { return 1<<c[0] | 1<<c[1] | 1<<c[2] }

// packed returns a greatest packing from all cycles. It gives up a choice when the cycles that are left are too few to better the best one.
func packed(all [][3]int) [][3]int {
	var chosen, best [][3]int
	var choose func(rest [][3]int)
	choose = func(rest [][3]int) {
		if len(chosen) > len(best) {
			best = slices.Clone(chosen)
		}
		for i, c := range rest {
			if len(chosen)+len(rest)-i <= len(best) {
				return
			}
			if slices.ContainsFunc(chosen, func(d [3]int) bool { return size(members(c)&members(d)) > 1 }) {
				continue
			}
			chosen = append(chosen, c)
			choose(rest[i+1:])
			chosen = chosen[:len(chosen)-1]
		}
	}
	choose(all)
	return best
}
