package bets

import (
	"slices"

	"planchet/api"
)

const (
	maxOdds = 12
	// multiple is a common multiple of all odds.
	multiple = 27720
)

// Grow returns the staking that grows best.
func Grow(chances, odds []int) ([]api.Frac, api.Errno) {
	if !isRace(chances, odds) {
		return nil, api.ErrArg
	}
	// The reserve is rest / 12 divided by free / multiple.
	rest, free := pays, multiple
	horses := ranked(chances, odds)
	taken := 0
	for _, h := range horses {
		if chances[h]*odds[h]*free <= rest*multiple {
			break
		}
		rest -= chances[h]
		free -= multiple / odds[h]
		taken++
	}
	stakes := fractions{make([]int, len(odds)), pays * free}
	for _, h := range horses[:taken] {
		stakes.nums[h] = chances[h]*free - rest*(multiple/odds[h])
	}
	return stakes.split(), api.OK
}

// Worth returns what there is after a race.
func Worth(chances, odds []int, stakes []api.Frac) ([]api.Frac, api.Errno) {
	if !isRace(chances, odds) || len(stakes) != len(odds) {
		return nil, api.ErrArg
	}
	staked, ok := join(stakes)
	if !ok || staked.total() > staked.den {
		return nil, api.ErrArg
	}
	worth := fractions{den: staked.den}
	for i, num := range staked.nums {
		worth.nums = append(worth.nums, staked.den-staked.total()+num*odds[i])
	}
	return worth.split(), api.OK
}

// isRace reports whether there is a race with these chances and odds.
func isRace(chances, odds []int) bool {
	if !isSize(len(chances)) || len(odds) != len(chances) {
		return false
	}
	sum := 0
	for _, chance := range chances {
		sum += chance
	}
	return all(chances, within(0, pays)) && sum == pays && all(odds, within(1, maxOdds))
}

// ranked returns the horses in the order in which they are taken.
func ranked(chances, odds []int) []int {
	var horses []int
	for h := range odds {
		horses = append(horses, h)
	}
	slices.SortStableFunc(horses, func(g, h int) int { return chances[h]*odds[h] - chances[g]*odds[g] })
	return horses
}
