package guess

import (
	"math"
	"slices"
	"testing"

	"planchet/api"
)

// games calls f with each game of pegs, and how many codes it has.
func games(f func(p, c, codes int)) {
	for p := 1; p <= 4; p++ {
		for c := 1; c <= 6; c++ {
			codes := 1
			for range p {
				codes *= c
			}
			if codes <= 256 {
				f(p, c, codes)
			}
		}
	}
}

// badGames are two numbers that are not a game of pegs.
var badGames = [][2]int{
	{0, 3}, {5, 1}, {5, 2}, {-1, 3}, {3, 0}, {3, 7}, {1, 7}, {3, -1}, {0, 0}, {4, 5}, {4, 6}, {2, 17}, {8, 2},
	{math.MaxInt, 1}, {math.MaxInt, math.MaxInt}, {1, math.MaxInt}, {math.MinInt, 1}, {4, math.MinInt}, {math.MinInt, math.MinInt},
}

// colours returns the colours of a code, first to last.
func colours(p, c, code int) []int {
	l := make([]int, p)
	for i := range l {
		unit := 1
		for range p - 1 - i {
			unit *= c
		}
		l[i] = code / unit % c
	}
	return l
}

// mostPairs returns how many holes of the guess from i on can be paired with holes of the code that are not taken, of the same colour.
func mostPairs(guess, code []int, taken []bool, i int) int {
	if i == len(guess) {
		return 0
	}
	most := mostPairs(guess, code, taken, i+1)
	if guess[i] < 0 {
		return most
	}
	for j := range code {
		if !taken[j] && guess[i] == code[j] {
			taken[j] = true
			most = max(most, 1+mostPairs(guess, code, taken, i+1))
			taken[j] = false
		}
	}
	return most
}

func pairsOf(guess, code []int) (black, white int) {
	taken := make([]bool, len(code))
	rest := slices.Clone(guess)
	for i := range guess {
		if guess[i] == code[i] {
			black++
			taken[i], rest[i] = true, -1
		}
	}
	return black, mostPairs(rest, code, taken, 0)
}

// P6.1: Marks counts the holes with the same colour, and the most pairs of other holes.
func TestMarks(t *testing.T) {
	games(func(p, c, codes int) {
		for guess := range codes {
			for code := range codes {
				black, white, e := Marks(p, c, guess, code)
				b, w := pairsOf(colours(p, c, guess), colours(p, c, code))
				if black != b || white != w || e != api.OK {
					t.Fatal(p, c, guess, code, black, white, e, b, w)
				}
			}
		}
	})
}

// P6.9: the marks of two codes are the same both ways, all black only for the code itself, and never all black but one that is white.
func TestMarksBothWays(t *testing.T) {
	games(func(p, c, codes int) {
		for a := range codes {
			for b := range codes {
				black, white, _ := Marks(p, c, a, b)
				other, another, _ := Marks(p, c, b, a)
				if black != other || white != another || black+white > p {
					t.Fatal(p, c, a, b, black, white, other, another)
				}
				if (black == p) != (a == b) || black == p-1 && white == 1 {
					t.Fatal(p, c, a, b, black, white)
				}
			}
		}
	})
}

// next returns a number from 0 to n - 1.
func next(r *uint64, n int) int {
	*r = *r*6364136223846793005 + 1442695040888963407
	return int(*r>>33) % n
}

// histories calls f with histories of each game: some with marks of a code, some with any marks.
func histories(n int, f func(p, c, codes int, history [][3]int)) {
	r := uint64(6)
	games(func(p, c, codes int) {
		f(p, c, codes, nil)
		for i := range n {
			code := next(&r, codes)
			var history [][3]int
			for range 1 + i%10 {
				guess := next(&r, codes)
				black, white := pairsOf(colours(p, c, guess), colours(p, c, code))
				if i%4 == 3 {
					black, white = next(&r, p+1), next(&r, p+1)
				}
				history = append(history, [3]int{guess, black, white})
			}
			f(p, c, codes, history)
		}
	})
}

func leftBy(p, c, codes int, history [][3]int) []int {
	var left []int
	for code := range codes {
		ok := true
		for _, h := range history {
			black, white, _ := Marks(p, c, h[0], code)
			ok = ok && black == h[1] && white == h[2]
		}
		if ok {
			left = append(left, code)
		}
	}
	return left
}

// P6.2, P6.10: Left returns the codes with the marks told, rising; each mark more leaves no more codes.
func TestLeft(t *testing.T) {
	histories(40, func(p, c, codes int, history [][3]int) {
		left, e := Left(p, c, history)
		if !slices.Equal(left, leftBy(p, c, codes, history)) || e != api.OK {
			t.Fatal(p, c, history, left, e)
		}
		if n := len(history); n > 0 {
			before, _ := Left(p, c, history[:n-1])
			for _, code := range left {
				if !slices.Contains(before, code) {
					t.Error(p, c, history, code)
				}
			}
		}
	})
}

// P6.10: the codes that the different marks of one guess leave are all that were left, each once.
func TestLeftParts(t *testing.T) {
	histories(3, func(p, c, codes int, history [][3]int) {
		if len(history) == 10 {
			return
		}
		before, _ := Left(p, c, history)
		for guess := range codes {
			var all []int
			for black := range p + 1 {
				for white := range p + 1 {
					left, e := Left(p, c, append(slices.Clone(history), [3]int{guess, black, white}))
					if e != api.OK {
						t.Fatal(e)
					}
					all = append(all, left...)
				}
			}
			slices.Sort(all)
			if !slices.Equal(all, before) {
				t.Fatal(p, c, history, guess, all, before)
			}
		}
	})
}

// worstOf returns the most codes of those left that have one pair of marks for the guess.
func worstOf(p, c int, left []int, guess int) int {
	worst := 0
	counts := map[[2]int]int{}
	for _, code := range left {
		black, white, _ := Marks(p, c, guess, code)
		counts[[2]int{black, white}]++
		worst = max(worst, counts[[2]int{black, white}])
	}
	return worst
}

// nextOf returns the first of the guesses with the least worst that is left, or the first of them.
func nextOf(worsts, left []int) int {
	first := -1
	for guess, worst := range worsts {
		if worst != slices.Min(worsts) {
			continue
		}
		if slices.Contains(left, guess) {
			return guess
		}
		if first < 0 {
			first = guess
		}
	}
	return first
}

// P6.2, P6.10: Worst is the greatest number of codes that one pair of marks leaves; Next has the least one, and if it can is left itself.
func TestNext(t *testing.T) {
	outside := 0
	histories(20, func(p, c, codes int, history [][3]int) {
		left := leftBy(p, c, codes, history)
		if len(left) == 0 {
			noneLeft(t, p, c, history)
			return
		}
		worsts := make([]int, codes)
		for guess := range worsts {
			worst, e := Worst(p, c, history, guess)
			worsts[guess] = worst
			if worst != worstOf(p, c, left, guess) || e != api.OK {
				t.Fatal(p, c, history, guess, worst, e)
			}
		}
		guess, e := Next(p, c, history)
		if guess != nextOf(worsts, left) || e != api.OK {
			t.Fatal(p, c, history, guess, e, nextOf(worsts, left))
		}
		if !slices.Contains(left, guess) {
			outside++
		}
	})
	if outside == 0 {
		t.Error("no guess that is not left")
	}
}

// P6.2: without a code that is left there is a state error, and no codes are left.
func noneLeft(t *testing.T, p, c int, history [][3]int) {
	t.Helper()
	if left, e := Left(p, c, history); len(left) != 0 || e != api.OK {
		t.Error(p, c, history, left, e)
	}
	if worst, e := Worst(p, c, history, 0); worst != 0 || e != api.ErrState {
		t.Error(p, c, history, worst, e)
	}
	if guess, e := Next(p, c, history); guess != 0 || e != api.ErrState {
		t.Error(p, c, history, guess, e)
	}
}

// P6.2: black and white may be more than the holes together, which leaves no code; a bad guess comes first.
func TestNoneLeft(t *testing.T) {
	games(func(p, c, codes int) {
		for black := range p + 1 {
			for white := range p + 1 {
				if black+white > p || black == p-1 && white == 1 {
					noneLeft(t, p, c, [][3]int{{codes - 1, black, white}})
				}
			}
		}
		for _, guess := range []int{-1, codes, math.MaxInt, math.MinInt} {
			if worst, e := Worst(p, c, [][3]int{{0, p, p}}, guess); worst != 0 || e != api.ErrArg {
				t.Error(p, c, guess, worst, e)
			}
		}
	})
}

// pegErrors checks that all functions with a history refuse it.
func pegErrors(t *testing.T, p, c int, history [][3]int) {
	t.Helper()
	if left, e := Left(p, c, history); len(left) != 0 || e != api.ErrArg {
		t.Error(p, c, len(history), left, e)
	}
	if worst, e := Worst(p, c, history, 0); worst != 0 || e != api.ErrArg {
		t.Error(p, c, len(history), worst, e)
	}
	if guess, e := Next(p, c, history); guess != 0 || e != api.ErrArg {
		t.Error(p, c, len(history), guess, e)
	}
}

// P6.1, P6.2, P6.3: what is no game, no code or no history.
func TestPegErrors(t *testing.T) {
	for _, g := range badGames {
		p, c := g[0], g[1]
		if black, white, e := Marks(p, c, 0, 0); black != 0 || white != 0 || e != api.ErrArg {
			t.Error(g, black, white, e)
		}
		if n, e := Need(p, c); n != 0 || e != api.ErrArg {
			t.Error(g, n, e)
		}
		pegErrors(t, p, c, nil)
		pegErrors(t, p, c, [][3]int{{0, 0, 0}})
	}
	games(func(p, c, codes int) {
		for _, bad := range []int{-1, codes, codes + 1, math.MaxInt, math.MinInt, 1 << 32} {
			for _, l := range [][2]int{{bad, 0}, {0, bad}, {bad, bad}} {
				if black, white, e := Marks(p, c, l[0], l[1]); black != 0 || white != 0 || e != api.ErrArg {
					t.Error(p, c, l, black, white, e)
				}
			}
			pegErrors(t, p, c, [][3]int{{bad, 0, 0}})
			pegErrors(t, p, c, [][3]int{{0, p, 0}, {bad, p, 0}})
		}
		for _, bad := range []int{-1, p + 1, math.MaxInt, math.MinInt, 1 << 32} {
			pegErrors(t, p, c, [][3]int{{0, bad, 0}})
			pegErrors(t, p, c, [][3]int{{0, 0, bad}})
			pegErrors(t, p, c, [][3]int{{0, p, 0}, {0, p, bad}})
		}
		pegErrors(t, p, c, make([][3]int, 11))
		pegErrors(t, p, c, make([][3]int, 100000))
	})
}

// P6.2: a history may have 10 triples, and the same one more than once.
func TestLongHistory(t *testing.T) {
	games(func(p, c, codes int) {
		var history [][3]int
		for range 10 {
			history = append(history, [3]int{codes - 1, p, 0})
		}
		if left, e := Left(p, c, history); !slices.Equal(left, []int{codes - 1}) || e != api.OK {
			t.Error(p, c, left, e)
		}
		if worst, e := Worst(p, c, history, 0); worst != 1 || e != api.OK {
			t.Error(p, c, worst, e)
		}
		if guess, e := Next(p, c, history); guess != codes-1 || e != api.OK {
			t.Error(p, c, guess, e)
		}
	})
}
