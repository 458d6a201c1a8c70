package mint

import (
	"strconv"

	"planchet/api"
	"planchet/bets"
	"planchet/evade"
	"planchet/guess"
	"planchet/learn"
	"planchet/order"
	"planchet/ranks"
	"planchet/sure"
	"planchet/talk"
	"planchet/weigh"
)

// one returns the words of a reply that is a single number.
func one(n int, e api.Errno) ([]string, api.Errno) {
	if e != api.OK {
		return nil, e
	}
	return []string{strconv.Itoa(n)}, api.OK
}

// named returns the names in a list that have these numbers.
func named(list []string, numbers []int) []string {
	var names []string
	for _, i := range numbers {
		names = append(names, list[i])
	}
	return names
}

func (s state) roll(args) ([]string, api.Errno) {
	if len(s.medals) == 0 {
		return nil, api.OK
	}
	lines, e := order.Lines(s.above)
	if e != api.OK {
		return nil, e
	}
	return named(s.medals, lines[0]), api.OK
}

func (s state) ways(args) ([]string, api.Errno) {
	if len(s.medals) == 0 {
		return nil, api.ErrNone
	}
	return one(order.Count(s.above))
}

func (s state) chance(a args) ([]string, api.Errno) {
	i, j, e := pair(s.medals, a.names)
	if e != api.OK {
		return nil, e
	}
	f, e := order.Chance(s.above, i, j)
	if e != api.OK {
		return nil, e
	}
	return []string{strconv.Itoa(f.Num) + "/" + strconv.Itoa(f.Den)}, api.OK
}

func (s state) order(args) ([]string, api.Errno) {
	if len(s.players) == 0 {
		return nil, api.ErrNone
	}
	players, e := ranks.Order(s.beats)
	if e != api.OK {
		return nil, e
	}
	return named(s.players, players), api.OK
}

func (s state) kings(args) ([]string, api.Errno) {
	if len(s.players) == 0 {
		return nil, api.ErrNone
	}
	set, e := ranks.Kings(s.beats)
	if e != api.OK {
		return nil, e
	}
	var kings []int
	for i := range s.players {
		if set&(1<<i) != 0 {
			kings = append(kings, i)
		}
	}
	return named(s.players, kings), api.OK
}

func (s state) need(args) ([]string, api.Errno) { return one(weigh.Need(s.batch)) }

func (s state) bound(args) ([]string, api.Errno) { return one(weigh.Bound(s.batch)) }

func (s state) price(a args) ([]string, api.Errno) {
	l := s.bets
	if len(l) == 0 {
		// There are no bets without a Bet; that nothing costs nothing is true of all beliefs.
		l = []bets.Bet{{Event: 0, Cents: 0}}
	}
	prices, e := bets.Price(worlds, l, a.numbers[0])
	if e != api.OK {
		return nil, e
	}
	var words []string
	for _, cents := range prices {
		words = append(words, strconv.Itoa(cents))
	}
	return words, api.OK
}

func (state) liar(a args) ([]string, api.Errno) { return one(guess.Least(a.numbers[0], a.numbers[1])) }

func (state) pegs(a args) ([]string, api.Errno) { return one(guess.Need(a.numbers[0], a.numbers[1])) }

func (state) ring(a args) ([]string, api.Errno) {
	five, e := sure.Confusions([]int{3, 6, 12, 24, 17})
	if e != api.OK {
		return nil, e
	}
	code, e := sure.Code(five, a.numbers[0])
	return one(len(code), e)
}

func (state) talk(a args) ([]string, api.Errno) {
	n := a.numbers[0]
	if n < 1 || n > api.MaxTable {
		return nil, api.ErrArg
	}
	table := make([][]int, n)
	for i := range n {
		table[i] = make([]int, n)
		table[i][i] = 1
	}
	return one(talk.Length(table))
}

func (state) learn(a args) ([]string, api.Errno) {
	p := a.numbers[0]
	if p < 1 || p > api.MaxPoints {
		return nil, api.ErrArg
	}
	return one(learn.Dim(p, small(p)))
}

func (state) evade(a args) ([]string, api.Errno) {
	n := a.numbers[0]
	if n < 1 || n > api.MaxFaces {
		return nil, api.ErrArg
	}
	return one(evade.Ask(n, small(n)))
}

// small returns all sets of at most one of n elements, rising.
func small(n int) []int {
	sets := []int{0}
	for i := range n {
		sets = append(sets, 1<<i)
	}
	return sets
}
