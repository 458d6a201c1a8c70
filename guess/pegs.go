package guess

import (
	"slices"

	"planchet/api"
)

const (
	maxHoles   = 4
	maxColours = 6
	maxCodes   = 256
	maxHistory = 10
)

// pegs is a game of pegs.
type pegs struct{ holes, colours int }

// Marks returns the marks of a guess.
func Marks(p, c, guess, code int) (black, white int, e api.Errno) {
	g := pegs{p, c}
	if !g.valid() || !g.areCodes(guess, code) {
		return 0, 0, api.ErrArg
	}
	black, white = g.marks(guess, code)
	return black, white, api.OK
}

// Left returns the codes that are left.
func Left(p, c int, history [][3]int) ([]int, api.Errno) {
	g := pegs{p, c}
	if !g.valid() || !g.isHistory(history) {
		return nil, api.ErrArg
	}
	return g.left(history), api.OK
}

// Worst returns the worst of a guess.
func Worst(p, c int, history [][3]int, guess int) (int, api.Errno) {
	g := pegs{p, c}
	if !g.valid() || !g.isHistory(history) || !g.areCodes(guess) {
		return 0, api.ErrArg
	}
	left := g.left(history)
	if len(left) == 0 {
		return 0, api.ErrState
	}
	return g.worst(left, guess), api.OK
}

// Next returns the best guess.
func Next(p, c int, history [][3]int) (int, api.Errno) {
	g := pegs{p, c}
	if !g.valid() || !g.isHistory(history) {
		return 0, api.ErrArg
	}
	left := g.left(history)
	if len(left) == 0 {
		return 0, api.ErrState
	}
	return g.next(left), api.OK
}

func (g pegs) valid() bool {
	return within(1, maxHoles, g.holes) && within(1, maxColours, g.colours) && g.codes() <= maxCodes
}

// codes returns how many codes there are.
func (g pegs) codes() int {
	n := 1
	for range g.holes {
		n *= g.colours
	}
	return n
}

func (g pegs) areCodes(numbers ...int) bool { return within(0, g.codes()-1, numbers...) }

func (g pegs) isHistory(history [][3]int) bool {
	if len(history) > maxHistory {
		return false
	}
	for _, told := range history {
		if !g.areCodes(told[0]) || !within(0, g.holes, told[1:]...) {
			return false
		}
	}
	return true
}

func (g pegs) marks(guess, code int) (black, white int) {
	var guessed, hidden [maxColours]int
	for range g.holes {
		a, b := guess%g.colours, code%g.colours
		if a == b {
			black++
		} else {
			guessed[a]++
			hidden[b]++
		}
		guess, code = guess/g.colours, code/g.colours
	}
	for colour, n := range guessed {
		white += min(n, hidden[colour])
	}
	return black, white
}

func (g pegs) left(history [][3]int) []int {
	var left []int
	for code := range g.codes() {
		if g.fits(history, code) {
			left = append(left, code)
		}
	}
	return left
}

func (g pegs) fits(history [][3]int, code int) bool {
	for _, told := range history {
		black, white := g.marks(told[0], code)
		if black != told[1] || white != told[2] {
			return false
		}
	}
	return true
}

func (g pegs) worst(left []int, guess int) int {
	var counts [maxHoles + 1][maxHoles + 1]int
	worst := 0
	for _, code := range left {
		black, white := g.marks(guess, code)
		counts[black][white]++
		worst = max(worst, counts[black][white])
	}
	return worst
}

// next takes the guesses that are left first, so that the first guess with the least worst is the one to make.
func (g pegs) next(left []int) int {
	best, least := 0, maxCodes+1
	for _, guess := range slices.Concat(left, g.left(nil)) {
		if worst := g.worst(left, guess); worst < least {
			best, least = guess, worst
		}
	}
	return best
}
