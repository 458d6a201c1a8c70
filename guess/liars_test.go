package guess

import (
	"math"
	"math/big"
	"slices"
	"testing"

	"planchet/api"
)

// states calls f with each state of so many elements with a sum of at most most.
func states(elements, most int, f func(state []int)) {
	if elements == 0 {
		f(nil)
		return
	}
	for last := range most + 1 {
		states(elements-1, most-last, func(state []int) { f(append(slices.Clone(state), last)) })
	}
}

// questionsOf returns the questions for a state, in order.
func questionsOf(state []int) [][]int {
	if len(state) == 0 {
		return [][]int{nil}
	}
	var all [][]int
	for n := range state[0] + 1 {
		for _, rest := range questionsOf(state[1:]) {
			all = append(all, append([]int{n}, rest...))
		}
	}
	return all
}

// someState returns a state with a sum from 0 to most.
func someState(r *uint64, most int) []int {
	state := make([]int, 1+next(r, 4))
	for range next(r, most+1) {
		state[next(r, len(state))]++
	}
	return state
}

func someQuestion(r *uint64, state []int) []int {
	var question []int
	for _, n := range state {
		question = append(question, next(r, n+1))
	}
	return question
}

func sumOf(state []int) int {
	sum := 0
	for _, n := range state {
		sum += n
	}
	return sum
}

// replied asks each number by itself: the reply is a lie for those that are not where it says.
func replied(state, question []int, yes bool) []int {
	next := make([]int, len(state))
	for lies := range state {
		for number := range state[lies] {
			told := lies
			if inSet := number < question[lies]; inSet != yes {
				told++
			}
			if told < len(next) {
				next[told]++
			}
		}
	}
	return next
}

// P6.4: After moves the numbers for which the reply is a lie, and drops those for which it is one too many.
func TestAfter(t *testing.T) {
	check := func(state, question []int) {
		for _, yes := range []bool{true, false} {
			next, e := After(state, question, yes)
			if !slices.Equal(next, replied(state, question, yes)) || e != api.OK {
				t.Fatal(state, question, yes, next, e)
			}
			if _, e := After(next, next, yes); e != api.OK {
				t.Fatal(state, question, yes, next, e)
			}
		}
	}
	for elements := 1; elements <= 4; elements++ {
		states(elements, 5, func(state []int) {
			for _, question := range questionsOf(state) {
				check(state, question)
			}
		})
	}
	r := uint64(7)
	for range 3000 {
		state := someState(&r, 200)
		check(state, someQuestion(&r, state))
	}
	check([]int{200}, []int{200})
	check([]int{0, 0, 0, 200}, []int{0, 0, 0, 0})
}

// weightOf sums the ways to choose with numbers of any size.
func weightOf(state []int, q int) *big.Int {
	sum := new(big.Int)
	for i, n := range state {
		for j := 0; j <= len(state)-1-i; j++ {
			ways := new(big.Int).Binomial(int64(q), int64(j))
			sum.Add(sum, ways.Mul(ways, big.NewInt(int64(n))))
		}
	}
	return sum
}

// liesOf counts, for each number, the sets of replies that can be its lies.
func liesOf(state []int, q int) int {
	sum := 0
	for set := range 1 << q {
		size := 0
		for rest := set; rest > 0; rest /= 2 {
			size += rest % 2
		}
		for i, n := range state {
			if i+size < len(state) {
				sum += n
			}
		}
	}
	return sum
}

// P6.5: Weight is the sum over the numbers of the ways to choose what were lies.
func TestWeight(t *testing.T) {
	check := func(state []int, q int) int {
		w, e := Weight(state, q)
		if weightOf(state, q).Cmp(big.NewInt(int64(w))) != 0 || e != api.OK {
			t.Fatal(state, q, w, e)
		}
		return w
	}
	for elements := 1; elements <= 4; elements++ {
		states(elements, 4, func(state []int) {
			for q := range 31 {
				w := check(state, q)
				if q <= 8 && w != liesOf(state, q) {
					t.Fatal(state, q, w)
				}
			}
		})
	}
	r := uint64(8)
	for range 3000 {
		check(someState(&r, 200), next(&r, 31))
	}
	check([]int{200, 0, 0, 0}, 30)
	check([]int{200}, 30)
	check([]int{0, 0, 0, 200}, 0)
}

// P6.12: the weights after yes and after no, with a question less, sum to the weight.
func TestWeightSum(t *testing.T) {
	r := uint64(9)
	for range 5000 {
		state, q := someState(&r, 200), 1+next(&r, 30)
		question := someQuestion(&r, state)
		yes, _ := After(state, question, true)
		no, _ := After(state, question, false)
		w, _ := Weight(state, q)
		y, _ := Weight(yes, q-1)
		n, e := Weight(no, q-1)
		if y+n != w || e != api.OK {
			t.Fatal(state, question, q, w, y, n, e)
		}
	}
}

// P6.8: Lie says yes if the weight after it is at least that after no.
func TestLie(t *testing.T) {
	even := 0
	check := func(state, question []int, q int) {
		yes, e := Lie(state, question, q)
		order := weightOf(replied(state, question, true), q-1).Cmp(weightOf(replied(state, question, false), q-1))
		if yes != (order >= 0) || e != api.OK {
			t.Fatal(state, question, q, yes, e)
		}
		if order == 0 {
			even++
		}
	}
	for elements := 1; elements <= 4; elements++ {
		states(elements, 4, func(state []int) {
			for _, question := range questionsOf(state) {
				for _, q := range []int{1, 2, 3, 5, 12, 30} {
					check(state, question, q)
				}
			}
		})
	}
	r := uint64(10)
	for range 3000 {
		state := someState(&r, 200)
		check(state, someQuestion(&r, state), 1+next(&r, 30))
	}
	if even == 0 {
		t.Error("no weights are even")
	}
}

// P6.12: a liar who replies by Lie keeps a weight above 2^q, so that the last state is no end.
func TestLieKeeps(t *testing.T) {
	r := uint64(11)
	games := 0
	for range 20000 {
		state, q := someState(&r, 200), 1+next(&r, 30)
		if w, _ := Weight(state, q); w <= 1<<q {
			continue
		}
		games++
		for ; q > 0; q-- {
			question := someQuestion(&r, state)
			yes, _ := Lie(state, question, q)
			state, _ = After(state, question, yes)
			if w, e := Weight(state, q-1); w <= 1<<(q-1) || e != api.OK {
				t.Fatal(state, q-1, w, e)
			}
		}
		if sumOf(state) <= 1 {
			t.Error(state)
		}
	}
	if games < 1000 {
		t.Error(games)
	}
}

var badStates = [][]int{
	nil, {}, {0, 0, 0, 0, 0}, {-1}, {0, -1}, {1, -1}, {-1, 2}, {201}, {100, 101}, {0, 0, 0, 201}, {67, 67, 67}, {200, 0, 0, 1},
	{math.MaxInt}, {math.MinInt}, {math.MaxInt, math.MaxInt}, {math.MaxInt, 1}, {math.MinInt, math.MinInt}, {math.MaxInt, math.MinInt, 2},
	{1 << 62, 1 << 62, 1 << 62, 1 << 62}, {1 << 32}, make([]int, 100000),
}

// stateErrors checks that all functions refuse the state, whatever else they are told.
func stateErrors(t *testing.T, state []int) {
	t.Helper()
	for _, question := range [][]int{nil, {0}, state, make([]int, len(state))} {
		if next, e := After(state, question, true); len(next) != 0 || e != api.ErrArg {
			t.Error(len(state), next, e)
		}
		if yes, e := Lie(state, question, 1); yes || e != api.ErrArg {
			t.Error(len(state), yes, e)
		}
	}
	if w, e := Weight(state, 0); w != 0 || e != api.ErrArg {
		t.Error(len(state), w, e)
	}
	notSmall(t, state, 12)
	notSmall(t, state, 0)
}

// notSmall checks that Wins and Ask refuse their arguments.
func notSmall(t *testing.T, state []int, q int) {
	t.Helper()
	if ok, e := Wins(state, q); ok || e != api.ErrArg {
		t.Error(len(state), q, ok, e)
	}
	if question, e := Ask(state, q); len(question) != 0 || e != api.ErrArg {
		t.Error(len(state), q, question, e)
	}
}

// P6.4, P6.5, P6.6, P6.8: what is no state.
func TestStateErrors(t *testing.T) {
	for _, state := range badStates {
		stateErrors(t, state)
	}
}

// P6.4, P6.8: what is no question for a state.
func TestQuestionErrors(t *testing.T) {
	state := []int{2, 0, 3}
	for _, question := range [][]int{
		nil, {}, {1}, {1, 0}, {1, 0, 1, 0}, {3, 0, 0}, {0, 1, 0}, {0, 0, 4}, {-1, 0, 0}, {0, -1, 0}, {0, 0, -1}, make([]int, 100000),
		{math.MaxInt, 0, 0}, {0, math.MinInt, 0}, {0, 0, math.MaxInt}, {1, math.MaxInt, math.MinInt}, {1 << 32, 0, 0},
	} {
		for _, yes := range []bool{true, false} {
			if next, e := After(state, question, yes); len(next) != 0 || e != api.ErrArg {
				t.Error(len(question), next, e)
			}
		}
		if yes, e := Lie(state, question, 1); yes || e != api.ErrArg {
			t.Error(len(question), yes, e)
		}
	}
}

// P6.5, P6.8: what is no number of questions.
func TestWeightErrors(t *testing.T) {
	for _, q := range []int{-1, 31, math.MaxInt, math.MinInt, 1 << 32} {
		if w, e := Weight([]int{1, 1}, q); w != 0 || e != api.ErrArg {
			t.Error(q, w, e)
		}
	}
	for _, q := range []int{0, -1, 31, math.MaxInt, math.MinInt, 1<<32 + 1} {
		if yes, e := Lie([]int{1, 1}, []int{1, 1}, q); yes || e != api.ErrArg {
			t.Error(q, yes, e)
		}
	}
}
