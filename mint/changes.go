package mint

import (
	"slices"

	"planchet/api"
	"planchet/bets"
	"planchet/order"
	"planchet/weigh"
)

const (
	worlds    = 3
	maxMedals = api.MaxOrder
	maxRanks  = api.MaxRanks
	maxCents  = 12
)

// state is what the mint keeps. A change leaves it as it is and gives a new
// one, so that a line that is not acknowledged in the end has done nothing.
type state struct {
	medals  []string
	above   []int // of each medal those above it
	players []string
	beats   []int // of each player those whom it beats
	batch   weigh.Known
	bets    []bets.Bet
}

func beginning() state {
	return state{batch: weigh.Known{Good: 1, None: true}}
}

// pair returns the numbers of two names in a list.
func pair(list, names []string) (i, j int, e api.Errno) {
	i, j = slices.Index(list, names[0]), slices.Index(list, names[1])
	if i < 0 || j < 0 {
		return 0, 0, api.ErrNone
	}
	return i, j, api.OK
}

// with returns a list with a name more.
func with(list []string, name string, most int) ([]string, api.Errno) {
	if slices.Contains(list, name) {
		return nil, api.ErrState
	}
	if len(list) == most {
		return nil, api.ErrFull
	}
	return append(slices.Clone(list), name), api.OK
}

func (s state) withMedal(a args) (state, api.Errno) {
	medals, e := with(s.medals, a.names[0], maxMedals)
	if e != api.OK {
		return s, e
	}
	s.medals = medals
	s.above = append(slices.Clone(s.above), 0)
	return s, api.OK
}

func (s state) withAbove(a args) (state, api.Errno) {
	upper, lower, e := pair(s.medals, a.names)
	if e != api.OK {
		return s, e
	}
	above, e := order.Add(s.above, lower, upper)
	if e != api.OK {
		return s, e
	}
	s.above = above
	return s, api.OK
}

func (s state) withPlayer(a args) (state, api.Errno) {
	players, e := with(s.players, a.names[0], maxRanks)
	if e != api.OK {
		return s, e
	}
	beats := append(slices.Clone(s.beats), 0)
	for i := range s.beats {
		beats[i] |= 1 << len(s.beats)
	}
	s.players, s.beats = players, beats
	return s, api.OK
}

func (s state) withBeat(a args) (state, api.Errno) {
	winner, loser, e := pair(s.players, a.names)
	if e != api.OK {
		return s, e
	}
	if winner == loser || s.beats[winner]&(1<<loser) != 0 {
		return s, api.ErrState
	}
	s.beats = slices.Clone(s.beats)
	s.beats[winner] |= 1 << loser
	s.beats[loser] &^= 1 << winner
	return s, api.OK
}

func (s state) withBatch(a args) (state, api.Errno) {
	n := a.numbers
	batch := weigh.Known{Both: n[0], Heavy: n[1], Light: n[2], Good: n[3], None: true}
	// Each Known has a bound: an error says that this is none.
	if _, e := weigh.Bound(batch); e != api.OK {
		return s, e
	}
	s.batch = batch
	return s, api.OK
}

func (s state) withPan(a args) (state, api.Errno) {
	n := a.numbers
	l := weigh.Load{
		Both:  [2]int{n[0], 0},
		Heavy: [2]int{n[1], 0},
		Light: [2]int{n[2], 0},
		Good:  [2]int{n[3], n[0] + n[1] + n[2] + n[3]},
	}
	batch, e := weigh.After(s.batch, l, 0)
	if e != api.OK {
		return s, e
	}
	s.batch = batch
	return s, api.OK
}

func (s state) withBet(a args) (state, api.Errno) {
	event, cents := a.numbers[0], a.numbers[1]
	if event < 1 || event > 1<<worlds-2 || cents > maxCents {
		return s, api.ErrArg
	}
	if slices.ContainsFunc(s.bets, func(b bets.Bet) bool { return b.Event == event }) {
		return s, api.ErrState
	}
	all := append(slices.Clone(s.bets), bets.Bet{Event: event, Cents: cents})
	if _, e := bets.Sound(worlds, all); e != api.OK {
		return s, e
	}
	s.bets = all
	return s, api.OK
}
