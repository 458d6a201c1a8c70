package guess

import (
	"slices"

	"planchet/api"
)

const maxNeedCodes = 27

// endgame is to find one of a set of codes with some guesses.
type endgame struct{ left, guesses int }

// solver keeps which endgames were tried, and whether the guesses suffice. For each guess it has the sets of codes that its marks tell apart; the guess itself is in none of them, since nothing is left to be found then.
type solver struct {
	parts [][]int
	tried map[endgame]bool
}

// Need returns how many guesses are needed.
func Need(p, c int) (int, api.Errno) {
	g := pegs{p, c}
	if !g.valid() || g.codes() > maxNeedCodes {
		return 0, api.ErrArg
	}
	s := solver{parts: g.parts(), tried: map[endgame]bool{}}
	all := 1<<g.codes() - 1
	need := 1
	for !s.suffice(all, need) {
		need++
	}
	return need, api.OK
}

func (g pegs) parts() [][]int {
	parts := make([][]int, g.codes())
	for guess := range parts {
		var sets [maxHoles][maxHoles + 1]int
		for code := range g.codes() {
			if black, white := g.marks(guess, code); black < g.holes {
				sets[black][white] |= 1 << code
			}
		}
		for _, row := range sets {
			for _, set := range row {
				if set != 0 {
					parts[guess] = append(parts[guess], set)
				}
			}
		}
	}
	return parts
}

// suffice reports whether so many guesses always find one of the codes that are left.
func (s solver) suffice(left, guesses int) bool {
	if left == 0 || guesses == 0 {
		return left == 0
	}
	e := endgame{left, guesses}
	if ok, found := s.tried[e]; found {
		return ok
	}
	ok := slices.ContainsFunc(s.parts, func(parts []int) bool { return s.follow(parts, left, guesses-1) })
	s.tried[e] = ok
	return ok
}

// follow reports whether so many guesses suffice after a guess with these parts, whatever its marks are.
func (s solver) follow(parts []int, left, guesses int) bool {
	for _, part := range parts {
		if !s.suffice(left&part, guesses) {
			return false
		}
	}
	return true
}
