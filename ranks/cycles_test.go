package ranks

import (
	"slices"
	"testing"

	"planchet/api"
)

// P2.5, P2.8: all cycles, against all rows of three, and their number from the scores.
func TestCycles(t *testing.T) {
	manyTournaments(200, func(x []int) {
		var want [][3]int
		everyRow(len(x), min(3, len(x)), func(row []int) bool {
			if len(row) == 3 && row[0] < row[1] && row[0] < row[2] && isRow(x, row) && won(x, row[2], row[0]) {
				want = append(want, [3]int(row))
			}
			return true
		})
		got, e := Cycles(x)
		if !slices.Equal(got, want) || e != api.OK {
			t.Error(x, got, e, want)
		}
		scores, _ := Scores(x)
		n := len(x)
		number := n * (n - 1) * (n - 2) / 6
		for _, s := range scores {
			number -= s * (s - 1) / 2
		}
		if len(got) != number {
			t.Error(x, got, number)
		}
	})
}

// common counts the players that two cycles have in common.
func common(a, b [3]int) int {
	n := 0
	for _, p := range a {
		if slices.Contains(b[:], p) {
			n++
		}
	}
	return n
}

// mostPacked finds the number of cycles of a greatest packing, each cycle being taken or not.
func mostPacked(rest, taken [][3]int) int {
	if len(rest) == 0 {
		return len(taken)
	}
	most := mostPacked(rest[1:], taken)
	if !slices.ContainsFunc(taken, func(c [3]int) bool { return common(c, rest[0]) > 1 }) {
		most = max(most, mostPacked(rest[1:], append(slices.Clip(taken), rest[0])))
	}
	return most
}

// P2.5: Pack is a packing, rising, and none has more cycles.
func TestPack(t *testing.T) {
	manyTournaments(100, func(x []int) {
		cycles, _ := Cycles(x)
		pack, e := Pack(x)
		if e != api.OK || len(pack) != mostPacked(cycles, nil) {
			t.Error(x, pack, e)
		}
		for i, c := range pack {
			if !slices.Contains(cycles, c) {
				t.Error("no cycle", x, pack, c)
			}
			if i > 0 && slices.Compare(pack[i-1][:], c[:]) >= 0 {
				t.Error("not rising", x, pack)
			}
			for _, d := range pack[:i] {
				if common(c, d) > 1 {
					t.Error("in common", x, pack, c, d)
				}
			}
		}
	})
}

// P2.5: the seven lines of a plane, as cycles, pack all pairs of 7 players; no other packing does, however many more cycles there are.
func TestPackPlane(t *testing.T) {
	lines := [][3]int{{0, 1, 3}, {0, 2, 6}, {0, 4, 5}, {1, 2, 4}, {1, 5, 6}, {2, 3, 5}, {3, 4, 6}}
	x := make([]int, 7)
	for _, c := range lines {
		for i, p := range c {
			x[p] |= 1 << c[(i+1)%3]
		}
	}
	if pack, e := Pack(x); !slices.Equal(pack, lines) || e != api.OK {
		t.Error(x, pack, e)
	}
}

// clearOf finds the greatest number of players without a cycle by leaving one out where there is a cycle.
func clearOf(t []int, players []int) int {
	for i, a := range players {
		for j, b := range players {
			for k, c := range players {
				if won(t, a, b) && won(t, b, c) && won(t, c, a) {
					return max(clearOf(t, without(players, i)), clearOf(t, without(players, j)), clearOf(t, without(players, k)))
				}
			}
		}
	}
	return len(players)
}

func without(l []int, i int) []int { return slices.Delete(slices.Clone(l), i, i+1) }

// P2.7, P2.14: the greatest number without a cycle; at least 3 of 4 players, 4 of 8.
func TestClear(t *testing.T) {
	manyTournaments(40, func(x []int) {
		var all []int
		for p := range x {
			all = append(all, p)
		}
		n, e := Clear(x)
		if e != api.OK || n != clearOf(x, all) {
			t.Error(x, n, e)
		}
	})
	everyTournament(4, func(x []int) {
		if n, e := Clear(x); n < 3 || e != api.OK {
			t.Error(x, n, e)
		}
	})
	manyTournaments(2000, func(x []int) {
		if n, e := Clear(x); n < 4 && len(x) == 8 || e != api.OK {
			t.Error(x, n, e)
		}
	})
}

// P2.7, P2.14: of the 7 players who each beat those 1, 2 and 4 places on, no 4 are without a cycle; with any eighth player 4 are.
func TestClearSeven(t *testing.T) {
	x := make([]int, 7)
	for p := range x {
		x[p] = 1<<((p+1)%7) | 1<<((p+2)%7) | 1<<((p+4)%7)
	}
	if n, e := Clear(x); n != 3 || e != api.OK {
		t.Error(x, n, e)
	}
	for beaten := range 1 << 7 {
		eight := append(slices.Clone(x), beaten)
		for p := range x {
			if beaten&(1<<p) == 0 {
				eight[p] |= 1 << 7
			}
		}
		if n, e := Clear(eight); n < 4 || e != api.OK {
			t.Error(eight, n, e)
		}
	}
}
