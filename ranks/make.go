package ranks

import (
	"cmp"
	"slices"

	"planchet/api"
)

// Make returns a tournament with scores.
func Make(s []int) ([]int, api.Errno) {
	if !areScores(s) {
		return nil, api.ErrArg
	}
	if !canBe(s) {
		return nil, api.ErrNone
	}
	return withScores(s), api.OK
}

func areScores(s []int) bool {
	if len(s) < 1 || len(s) > api.MaxRanks {
		return false
	}
	for _, score := range s {
		if score < 0 || score >= api.MaxRanks {
			return false
		}
	}
	return slices.IsSorted(s)
}

// canBe reports whether some tournament has these scores: by Landau's theorem it is enough that no few players win less often than they meet each other, and all just as often.
func canBe(s []int) bool {
	wins, games := 0, 0
	for p, score := range s {
		wins += score
		games += p
		if wins < games {
			return false
		}
	}
	return wins == games
}

// withScores settles all games of one player after the other, always of the one who has the most to win. If it beats those who have the least to win, what is left to win can be, too.
func withScores(s []int) []int {
	t := make([]int, len(s))
	wins := slices.Clone(s)
	unsettled := slices.Collect(players(everyone(t)))
	for n := len(t) - 1; n >= 0; n-- {
		slices.SortStableFunc(unsettled, func(p, q int) int { return cmp.Compare(wins[p], wins[q]) })
		most := unsettled[n]
		unsettled = unsettled[:n]
		for i, p := range unsettled {
			if i < wins[most] {
				t[most] |= 1 << p
			} else {
				t[p] |= 1 << most
				wins[p]--
			}
		}
	}
	return t
}
