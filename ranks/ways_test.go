package ranks

import (
	"math"
	"slices"
	"testing"

	"planchet/api"
)

// isRow reports whether each one of the row beats the next one.
func isRow(t, row []int) bool {
	for i := 1; i < len(row); i++ {
		if !won(t, row[i-1], row[i]) {
			return false
		}
	}
	return true
}

// P2.2, P2.9: the first of all ways, of which there is an odd number.
func TestWay(t *testing.T) {
	manyTournaments(15, func(x []int) {
		var want []int
		count := 0
		everyRow(len(x), len(x), func(row []int) bool {
			if isRow(x, row) {
				if count == 0 {
					want = slices.Clone(row)
				}
				count++
			}
			return true
		})
		if count%2 != 1 {
			t.Error("number", x, count)
		}
		if got, e := Way(x); !slices.Equal(got, want) || e != api.OK {
			t.Error(x, got, e, want)
		}
	})
}

// P2.2: the first of all rounds, of any number of players.
func TestRound(t *testing.T) {
	manyTournaments(15, func(x []int) {
		for k := 3; k <= len(x); k++ {
			var want []int
			everyRow(len(x), k, func(row []int) bool {
				if isRow(x, row) && won(x, row[k-1], row[0]) {
					want = slices.Clone(row)
				}
				return want == nil
			})
			got, e := Round(x, k)
			if want == nil && (len(got) != 0 || e != api.ErrNone) || want != nil && (!slices.Equal(got, want) || e != api.OK) {
				t.Error(x, k, got, e, want)
			}
		}
	})
}

// P2.2: numbers of which there is no round for any tournament.
func TestRoundBad(t *testing.T) {
	for _, x := range [][]int{{0}, {2, 0}, {2, 4, 1}, {6, 4, 0}, circle(7), circle(8)} {
		for _, k := range []int{math.MinInt, -3, -1, 0, 1, 2, len(x) + 1, 9, 64, math.MaxInt} {
			if got, e := Round(x, k); len(got) != 0 || e != api.ErrArg {
				t.Error(x, k, got, e)
			}
		}
	}
	for _, x := range [][]int{{0}, {2, 0}} {
		for k := range 9 {
			if got, e := Round(x, k); len(got) != 0 || e != api.ErrArg {
				t.Error(x, k, got, e)
			}
		}
	}
}

// inRound reports whether the player is in some round of k players.
func inRound(t []int, player, k int) bool {
	found := false
	everyRow(len(t), k, func(row []int) bool {
		found = slices.Contains(row, player) && isRow(t, row) && won(t, row[k-1], row[0])
		return !found
	})
	return found
}

// P2.10: if a tournament is one part, there are rounds of all numbers, and everybody is in one of each.
func TestRoundsOfPart(t *testing.T) {
	manyTournaments(5, func(x []int) {
		parts, e := Parts(x)
		if e != api.OK || len(parts) != 1 || len(x) < 3 {
			return
		}
		for k := 3; k <= len(x); k++ {
			if got, e := Round(x, k); len(got) != k || e != api.OK {
				t.Error(x, k, got, e)
			}
			for p := range x {
				if !inRound(x, p, k) {
					t.Error(x, k, p)
				}
			}
		}
	})
}

// P2.10: the same for all tournaments of 6 players, by Round alone.
func TestRoundsOfSix(t *testing.T) {
	everyTournament(6, func(x []int) {
		parts, _ := Parts(x)
		for k := 3; k <= 6; k++ {
			got, e := Round(x, k)
			if len(parts) == 1 && e != api.OK || k == 6 && len(parts) > 1 && e != api.ErrNone {
				t.Error(x, k, parts, got, e)
			}
		}
	})
}
