package ranks

import (
	"math"
	"slices"
	"testing"

	"planchet/api"
)

// everyScores calls f with each slice of n rising scores.
func everyScores(n int, f func([]int)) {
	s := make([]int, n)
	var set func(i, least int)
	set = func(i, least int) {
		if i == n {
			f(s)
			return
		}
		for s[i] = least; s[i] < 8; s[i]++ {
			set(i+1, s[i])
		}
	}
	set(0, 0)
}

// landau is the condition in the words of P2.8.
func landau(s []int) bool {
	sum := 0
	for k := 1; k <= len(s); k++ {
		sum += s[k-1]
		if sum < k*(k-1)/2 {
			return false
		}
	}
	return sum == len(s)*(len(s)-1)/2
}

// P2.1, P2.8: all scores of any number of players: OK just where Landau's condition holds, and then with these scores in this order.
func TestMake(t *testing.T) {
	for n := 1; n <= api.MaxRanks; n++ {
		everyScores(n, func(s []int) {
			same := slices.Clone(s)
			x, e := Make(s)
			if !slices.Equal(s, same) {
				t.Fatal("changed", s, same)
			}
			if !landau(s) {
				if len(x) != 0 || e != api.ErrNone {
					t.Error(s, x, e)
				}
				return
			}
			if e != api.OK || len(x) != n {
				t.Error(s, x, e)
				return
			}
			for p, score := range s {
				if size(x[p]) != score {
					t.Error(s, x)
				}
			}
			if got, e := Scores(x); !slices.Equal(got, s) || e != api.OK {
				t.Error(s, x, got, e)
			}
		})
	}
}

// P2.1, P2.8: just the scores that some tournament has can be made.
func TestMakeAll(t *testing.T) {
	for n := 1; n <= 6; n++ {
		had := map[[8]int]bool{}
		everyTournament(n, func(x []int) {
			s, _ := Scores(x)
			var key [8]int
			copy(key[:], s)
			had[key] = true
		})
		everyScores(n, func(s []int) {
			var key [8]int
			copy(key[:], s)
			if _, e := Make(s); (e == api.OK) != had[key] {
				t.Error(s, e, had[key])
			}
		})
	}
}

// P2.1: the Examples; scores that no tournament has, and what are no scores.
func TestMakeErrors(t *testing.T) {
	for _, s := range [][]int{{0, 1, 2}, {1, 1, 1}, {0}, {0, 1}, {0, 1, 2, 3, 4, 5, 6, 7}, {3, 3, 3, 3, 4, 4, 4, 4}} {
		if x, e := Make(s); len(x) != len(s) || e != api.OK {
			t.Error(s, x, e)
		}
	}
	for _, s := range [][]int{{0, 0, 3}, {1}, {7}, {0, 0}, {1, 1}, {0, 7}, {0, 2, 2}, {2, 2, 2}, {0, 1, 1}, {0, 0, 0, 0, 0, 7, 7, 7}, {7, 7, 7, 7, 7, 7, 7, 7}} {
		if x, e := Make(s); len(x) != 0 || e != api.ErrNone {
			t.Error(s, x, e)
		}
	}
	for _, s := range [][]int{
		nil, {}, make([]int, 9), {0, 1, 2, 3, 4, 5, 6, 7, 7}, {-1}, {8}, {1, 0}, {0, 8}, {-1, 2}, {0, 2, 1}, {1, 0, 2}, {2, 1, 0}, {7, 6, 5, 4, 3, 2, 1, 0}, {0, 1, 2, 3, 4, 5, 5, 8},
		{math.MaxInt}, {math.MinInt}, {math.MinInt, math.MaxInt}, {0, 1, math.MaxInt}, {math.MaxInt, math.MaxInt, math.MaxInt}, {math.MinInt, 1, 1}, make([]int, 1000),
	} {
		if x, e := Make(s); len(x) != 0 || e != api.ErrArg {
			t.Error(s, x, e)
		}
	}
}
