package guess

import "planchet/api"

const (
	maxLies      = 3
	maxNumbers   = 200
	maxQuestions = 30
)

// numbers is a state of a game with maxLies lies, or a question for it. A game with fewer lies is one of these too: the elements of its states come last, where numbers have as many lies left, and the first ones stay 0.
type numbers [maxLies + 1]int

// After returns the state after a reply.
func After(state, question []int, yes bool) ([]int, api.Errno) {
	if !isState(state) || !isQuestion(question, state) {
		return nil, api.ErrArg
	}
	next := numbersOf(state).after(numbersOf(question), yes)
	return next.last(len(state)), api.OK
}

// Weight returns the weight of a state.
func Weight(state []int, q int) (int, api.Errno) {
	if !isState(state) || !within(0, maxQuestions, q) {
		return 0, api.ErrArg
	}
	return numbersOf(state).weight(q), api.OK
}

// Lie returns what a liar replies.
func Lie(state, question []int, q int) (bool, api.Errno) {
	if !isState(state) || !isQuestion(question, state) || !within(1, maxQuestions, q) {
		return false, api.ErrArg
	}
	x, asked := numbersOf(state), numbersOf(question)
	yes, no := x.after(asked, true), x.after(asked, false)
	return yes.weight(q-1) >= no.weight(q-1), api.OK
}

func isState(state []int) bool {
	return within(1, maxLies+1, len(state)) && within(0, maxNumbers, state...) && numbersOf(state).sum() <= maxNumbers
}

// isQuestion reports whether question is one for the state, which is valid.
func isQuestion(question, state []int) bool {
	if len(question) != len(state) {
		return false
	}
	for i, n := range state {
		if !within(0, n, question[i]) {
			return false
		}
	}
	return true
}

func numbersOf(state []int) numbers {
	var x numbers
	copy(x[len(x)-len(state):], state)
	return x
}

// last returns the last n elements.
func (x numbers) last(n int) []int {
	l := make([]int, n)
	copy(l, x[len(x)-n:])
	return l
}

func (x numbers) sum() int {
	sum := 0
	for _, n := range x {
		sum += n
	}
	return sum
}

func (x numbers) without(others numbers) numbers {
	for i, n := range others {
		x[i] -= n
	}
	return x
}

func (x numbers) after(asked numbers, yes bool) numbers {
	affirmed, denied := asked, x.without(asked)
	if !yes {
		affirmed, denied = denied, affirmed
	}
	for i, n := range denied[:maxLies] {
		affirmed[i+1] += n
	}
	return affirmed
}

// weight counts for each number the ways in which some of q replies can be its lies.
func (x numbers) weight(q int) int {
	weight, ways, choices := 0, 0, 1
	for lies := range x {
		ways += choices
		weight += ways * x[maxLies-lies]
		choices = choices * (q - lies) / (lies + 1)
	}
	return weight
}
