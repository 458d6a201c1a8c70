package guess

import (
	"iter"

	"planchet/api"
)

const (
	maxWinQuestions = 12
	maxWinNumbers   = 24
	maxLeastNumbers = 40
	maxLeastLies    = 2
)

// position is a state without numbers that have no lie left, and how many questions are left.
type position struct {
	x         numbers
	questions int
}

// search keeps the rooms that were found.
type search struct{ rooms map[position]int }

func newSearch() search { return search{rooms: map[position]int{}} }

// Wins reports whether questions suffice.
func Wins(state []int, q int) (bool, api.Errno) {
	if !isSmall(state) || !within(0, maxWinQuestions, q) {
		return false, api.ErrArg
	}
	return newSearch().wins(numbersOf(state), q), api.OK
}

// Ask returns the first winning question.
func Ask(state []int, q int) ([]int, api.Errno) {
	if !isSmall(state) || !within(0, maxWinQuestions, q) {
		return nil, api.ErrArg
	}
	x, s := numbersOf(state), newSearch()
	if x.sum() <= 1 {
		return nil, api.ErrState
	}
	if !s.wins(x, q) {
		return nil, api.ErrNone
	}
	return s.first(x, q).last(len(state)), api.OK
}

// Least returns how many questions are needed.
func Least(n, e int) (int, api.Errno) {
	if !within(1, maxLeastNumbers, n) || !within(0, maxLeastLies, e) {
		return 0, api.ErrArg
	}
	var x numbers
	x[maxLies-e] = n
	s, q := newSearch(), 0
	for !s.wins(x, q) {
		q++
	}
	return q, api.OK
}

func isSmall(state []int) bool {
	return isState(state) && numbersOf(state).sum() <= maxWinNumbers
}

// questions ranges over the questions for a state, in order.
func (x numbers) questions() iter.Seq[numbers] {
	return func(yield func(numbers) bool) {
		var asked numbers
		for yield(asked) {
			i := maxLies
			for i >= 0 && asked[i] == x[i] {
				asked[i] = 0
				i--
			}
			if i < 0 {
				return
			}
			asked[i]++
		}
	}
}

// first returns the first question after which one question less suffices.
func (s search) first(x numbers, q int) numbers {
	for asked := range x.questions() {
		if s.wins(x.after(asked, true), q-1) && s.wins(x.after(asked, false), q-1) {
			return asked
		}
	}
	return numbers{}
}

func (s search) wins(x numbers, q int) bool { return s.spare(x, q) >= 0 }

// spare returns how many more numbers without a lie left there may be so that q questions suffice; it is negative if they do not suffice for the state itself.
func (s search) spare(x numbers, q int) int {
	spent := x[maxLies]
	x[maxLies] = 0
	return s.room(position{x, q}) - spent
}

// room returns how many numbers without a lie left there may be beside those of a position so that its questions suffice, or -1 if they do not suffice for these alone. Fewer of such numbers are never harder, so that one number tells which states are won.
func (s search) room(p position) int {
	bound := 1<<p.questions - p.x.weight(p.questions)
	if p.questions == 0 || bound < 0 {
		return max(bound, -1)
	}
	if room, found := s.rooms[p]; found {
		return room
	}
	room := -1
	for asked := range p.x.questions() {
		room = max(room, s.after(p, asked))
		if room == bound {
			break
		}
	}
	s.rooms[p] = room
	return room
}

// after returns the room if that question is asked next: what either reply leaves free can be filled with numbers on its side.
func (s search) after(p position, asked numbers) int {
	yes := s.spare(p.x.after(asked, true), p.questions-1)
	if yes < 0 {
		return -1
	}
	no := s.spare(p.x.after(asked, false), p.questions-1)
	if no < 0 {
		return -1
	}
	return yes + no
}
