package weigh

import "planchet/api"

const (
	maxWeighings = 4 // of a plan that is judged or read
	maxPlanned   = 3 // of a plan that is made
)

// Right reports whether a fixed plan is right.
func Right(plan [][]int) (bool, api.Errno) {
	if !isPlan(plan) {
		return false, api.ErrArg
	}
	return level(plan) && apart(plan), api.OK
}

// Plan returns a right fixed plan.
func Plan(coins, k int) ([][]int, api.Errno) {
	if coins < 1 || coins > api.MaxCoins || k < 1 || k > maxPlanned {
		return nil, api.ErrArg
	}
	plan, ok := fill(halves(k), coins, [maxPlanned]int{})
	if !ok {
		return nil, api.ErrNone
	}
	return plan, api.OK
}

// Read returns the false coin and its kind.
func Read(plan [][]int, results []int) (coin, sign int, e api.Errno) {
	if !isPlan(plan) || len(results) != len(plan[0]) || !areSigns(results) {
		return 0, 0, api.ErrArg
	}
	if !level(plan) || !apart(plan) {
		return 0, 0, api.ErrNone
	}
	for i, places := range plan {
		if same(results, places, 1) {
			return i, 1, api.OK
		}
		if same(results, places, -1) {
			return i, -1, api.OK
		}
	}
	if same(results, results, -1) {
		return -1, 0, api.OK
	}
	return 0, 0, api.ErrNone
}

func isPlan(plan [][]int) bool {
	if len(plan) < 1 || len(plan) > api.MaxCoins || len(plan[0]) < 1 || len(plan[0]) > maxWeighings {
		return false
	}
	for _, places := range plan {
		if len(places) != len(plan[0]) || !areSigns(places) {
			return false
		}
	}
	return true
}

func areSigns(l []int) bool {
	for _, n := range l {
		if !isSign(n) {
			return false
		}
	}
	return true
}

// level reports whether in each weighing both pans have the same number of coins.
func level(plan [][]int) bool {
	for weighing := range plan[0] {
		sum := 0
		for _, places := range plan {
			sum += places[weighing]
		}
		if sum != 0 {
			return false
		}
	}
	return true
}

// apart reports whether any false coin gives results of its own. Only a coin that is always aside is its own opposite.
func apart(plan [][]int) bool {
	for i, places := range plan {
		if same(places, places, -1) {
			return false
		}
		for _, other := range plan[:i] {
			if same(places, other, 1) || same(places, other, -1) {
				return false
			}
		}
	}
	return true
}

// same reports whether a is b times sign.
func same(a, b []int, sign int) bool {
	for i := range a {
		if a[i] != sign*b[i] {
			return false
		}
	}
	return true
}

// halves returns, of each slice of k places and its opposite that are not 0 alone, the one whose last number but 0 is 1: the digits of the numbers from 1 on.
func halves(k int) [][]int {
	var all [][]int
	for n := 1; fewest(2*n+1) <= k; n++ {
		all = append(all, times(digits(n), 1, k))
	}
	return all
}

// times returns k places: those of l times sign, and 0 behind them.
func times(l []int, sign, k int) []int {
	out := make([]int, k)
	for i, n := range l {
		out[i] = sign * n
	}
	return out
}

// fill finds a plan for so many coins from halves or their opposites, each at most once, that brings the sums of the weighings to 0.
func fill(halves [][]int, coins int, sums [maxPlanned]int) ([][]int, bool) {
	if coins == 0 {
		return nil, sums == [maxPlanned]int{}
	}
	for i, half := range halves {
		for _, sign := range [2]int{1, -1} {
			places := times(half, sign, len(half))
			if plan, ok := fill(halves[i+1:], coins-1, plus(sums, places)); ok {
				return append(plan, places), true
			}
		}
	}
	return nil, false
}

func plus(sums [maxPlanned]int, places []int) [maxPlanned]int {
	for i, n := range places {
		sums[i] += n
	}
	return sums
}
