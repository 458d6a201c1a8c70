package guess

import (
	"testing"

	"planchet/api"
)

// needOf returns the least number of guesses that always find one of the codes, or more than limit if that is not enough.
func needOf(p, c, codes int, left []int, limit int) int {
	if limit == 0 {
		return 1
	}
	best := limit + 1
	for guess := range codes {
		parts := map[[2]int][]int{}
		for _, code := range left {
			if code != guess {
				black, white, _ := Marks(p, c, guess, code)
				parts[[2]int{black, white}] = append(parts[[2]int{black, white}], code)
			}
		}
		need := 1
		for _, part := range parts {
			if need < best {
				need = max(need, 1+needOf(p, c, codes, part, best-2))
			}
		}
		best = min(best, need)
	}
	return best
}

// P6.3: Need is the least number of guesses that always suffice, and is only for games of up to 27 codes.
func TestNeed(t *testing.T) {
	games(func(p, c, codes int) {
		n, e := Need(p, c)
		if codes > 27 {
			if n != 0 || e != api.ErrArg {
				t.Error(p, c, n, e)
			}
			return
		}
		var all []int
		for code := range codes {
			all = append(all, code)
		}
		if want := needOf(p, c, codes, all, 6); n != want || e != api.OK {
			t.Error(p, c, n, e, want)
		}
	})
}

// P6.11: Need of one hole is the number of colours; it is 1 only with one colour; a colour more is not less.
func TestNeedColours(t *testing.T) {
	games(func(p, c, codes int) {
		n, e := Need(p, c)
		if e != api.OK {
			return
		}
		if p == 1 && n != c || (n == 1) != (c == 1) {
			t.Error(p, c, n)
		}
		if more, e := Need(p, c+1); e == api.OK && more < n {
			t.Error(p, c, n, more)
		}
	})
}

// P6.3: the guesses of Next are a way to find every code, so for some code they are at least as many as Need.
func TestNeedNext(t *testing.T) {
	games(func(p, c, codes int) {
		need, e := Need(p, c)
		if e != api.OK {
			return
		}
		most := 0
		for code := range codes {
			var history [][3]int
			for black := 0; black < p; {
				guess, e := Next(p, c, history)
				if e != api.OK {
					t.Fatal(p, c, code, history, e)
				}
				b, w, _ := Marks(p, c, guess, code)
				black = b
				history = append(history, [3]int{guess, b, w})
			}
			most = max(most, len(history))
		}
		if most < need {
			t.Error(p, c, most, need)
		}
	})
}
