package guess

import (
	"math"
	"math/bits"
	"slices"
	"testing"

	"planchet/api"
)

// left is a state, followed by -1 for elements that it does not have, with questions left.
type left struct {
	state [4]int
	q     int
}

// player tries all questions, and keeps what it found. If it weighs, it takes states that are too heavy for lost without trying.
type player struct {
	known  map[left]bool
	weighs bool
}

func newPlayer(weighs bool) player { return player{map[left]bool{}, weighs} }

// wins reports whether q questions suffice to come to an end, whatever the replies are.
func (l player) wins(state []int, q int) bool {
	if sumOf(state) <= 1 || q == 0 {
		return sumOf(state) <= 1
	}
	if w, _ := Weight(state, q); l.weighs && w > 1<<q {
		return false
	}
	key := left{[4]int{-1, -1, -1, -1}, q}
	copy(key.state[:], state)
	ok, found := l.known[key]
	if !found {
		ok = l.first(state, q) != nil
		l.known[key] = ok
	}
	return ok
}

// first returns the first question after which q - 1 questions suffice.
func (l player) first(state []int, q int) []int {
	for _, question := range questionsOf(state) {
		if l.follows(state, question, q-1) {
			return question
		}
	}
	return nil
}

func (l player) follows(state, question []int, q int) bool {
	for _, yes := range []bool{true, false} {
		if after, e := After(state, question, yes); e != api.OK || !l.wins(after, q) {
			return false
		}
	}
	return true
}

// checkWins holds Wins and Ask against all questions.
func checkWins(t *testing.T, l player, state []int, q int) bool {
	t.Helper()
	want := l.wins(state, q)
	if ok, e := Wins(state, q); ok != want || e != api.OK {
		t.Fatal(state, q, ok, e)
	}
	question, e := Ask(state, q)
	switch {
	case sumOf(state) <= 1:
		if len(question) != 0 || e != api.ErrState {
			t.Fatal(state, q, question, e)
		}
	case !want:
		if len(question) != 0 || e != api.ErrNone {
			t.Fatal(state, q, question, e)
		}
	default:
		if !slices.Equal(question, l.first(state, q)) || e != api.OK {
			t.Fatal(state, q, question, e)
		}
	}
	return want
}

// P6.5, P6.6, P6.12: for all small states Wins and Ask are what trying all questions finds, and the weight is at most 2^q if Wins.
func TestWins(t *testing.T) {
	l := newPlayer(false)
	for i, most := range []int{24, 12, 8, 6} {
		states(i+1, most, func(state []int) {
			for q := range 13 {
				ok := checkWins(t, l, state, q)
				if w, e := Weight(state, q); ok && w > 1<<q || e != api.OK {
					t.Fatal(state, q, w, e)
				}
			}
		})
	}
}

// boundary returns the least number of questions for which the state is not too heavy, but at most 12.
func boundary(state []int) int {
	for q := range 12 {
		if w, _ := Weight(state, q); w <= 1<<q {
			return q
		}
	}
	return 12
}

// P6.5, P6.6: the same for some greater states, where the weight does not tell.
func TestWinsGreater(t *testing.T) {
	l := newPlayer(true)
	r := uint64(12)
	lost := 0
	for range 120 {
		state := someState(&r, 24)
		for q := boundary(state); q <= min(12, boundary(state)+1); q++ {
			if w, _ := Weight(state, q); !checkWins(t, l, state, q) && w <= 1<<q {
				lost++
			}
		}
	}
	if lost < 10 {
		t.Error("few states are lost in spite of their weight", lost)
	}
}

// P6.6: in these states, almost alone, a question earlier than the right one is won after no, but not after yes.
func TestAskBoth(t *testing.T) {
	l := newPlayer(true)
	for _, state := range [][]int{{2, 20, 0}, {2, 20, 1}, {2, 20, 2}, {0, 2, 20, 0}, {0, 2, 20, 2}} {
		if !checkWins(t, l, state, 8) {
			t.Error(state)
		}
	}
	if question, e := Ask([]int{2, 20, 2, 0}, 11); !slices.Equal(question, []int{1, 10, 1, 0}) || e != api.OK {
		t.Error(question, e)
	}
}

// P6.5: only the sum and the number of questions are limited.
func TestWinsLimits(t *testing.T) {
	for _, x := range []struct {
		state []int
		q     int
		want  bool
	}{
		{[]int{24}, 5, true}, {[]int{24}, 4, false}, {[]int{0, 0, 0, 24}, 12, true}, {[]int{24, 0, 0, 0}, 12, false},
		{[]int{0}, 0, true}, {[]int{0, 0, 0, 0}, 12, true}, {[]int{1, 0, 0, 0}, 0, true}, {[]int{1, 0, 0, 1}, 0, false},
		{[]int{2, 0, 0, 0}, 7, true}, {[]int{2, 0, 0, 0}, 6, false}, {[]int{3, 0}, 4, false}, {[]int{3, 0}, 5, true},
	} {
		if ok, e := Wins(x.state, x.q); ok != x.want || e != api.OK {
			t.Error(x, ok, e)
		}
	}
	for _, state := range [][]int{{25}, {24, 1}, {0, 0, 0, 25}, {7, 6, 6, 6}, {200}} {
		notSmall(t, state, 0)
		notSmall(t, state, 12)
	}
	for _, q := range []int{-1, 13, 30, math.MaxInt, math.MinInt, 1 << 32} {
		notSmall(t, []int{2, 1}, q)
		notSmall(t, []int{0}, q)
	}
}

// someWins returns a state with a sum of at most 24, and a number of questions that suffice, if it finds them.
func someWins(t *testing.T, r *uint64) (state []int, q int, ok bool) {
	state = someState(r, 24)
	for q := boundary(state); q <= 12; q++ {
		ok, e := Wins(state, q)
		if e != api.OK {
			t.Fatal(state, q, e)
		}
		if ok {
			return state, q, true
		}
	}
	return nil, 0, false
}

// mustWin checks that Wins is true.
func mustWin(t *testing.T, state []int, q int) {
	t.Helper()
	if ok, e := Wins(state, q); !ok || e != api.OK {
		t.Fatal(state, q, ok, e)
	}
}

// P6.13: Wins goes on with more questions, with a state whose elements are no greater, and after one lie more.
func TestWinsMore(t *testing.T) {
	r := uint64(13)
	for range 200 {
		state, q, ok := someWins(t, &r)
		if !ok {
			continue
		}
		for more := q + 1; more <= 12; more++ {
			mustWin(t, state, more)
		}
		mustWin(t, someQuestion(&r, state), q)
		for i := range state {
			if state[i] == 0 {
				continue
			}
			lesser := slices.Clone(state)
			lesser[i]--
			mustWin(t, lesser, q)
			if i+1 < len(state) {
				lesser[i+1]++
				mustWin(t, lesser, q)
			}
		}
	}
}

// P6.14: after Ask, and any reply, Wins is true with one question less, down to an end.
func TestAskOn(t *testing.T) {
	r := uint64(14)
	for range 400 {
		state, q, ok := someWins(t, &r)
		for ok && sumOf(state) > 1 {
			question, e := Ask(state, q)
			if e != api.OK {
				t.Fatal(state, q, e)
			}
			yes, e := After(state, question, true)
			no, f := After(state, question, false)
			if e != api.OK || f != api.OK {
				t.Fatal(state, q, question, e, f)
			}
			q--
			mustWin(t, yes, q)
			mustWin(t, no, q)
			state = [][]int{yes, no}[next(&r, 2)]
		}
	}
}

// leastOf is how many questions without lies suffice, and with one lie what Pelc found to suffice.
func leastOf(n, e int) int {
	if e == 0 {
		return bits.Len(uint(n - 1))
	}
	if n == 1 {
		return 0
	}
	q := 0
	for n*(q+1)+n%2*(q-1) > 1<<q {
		q++
	}
	return q
}

// P6.7, P6.13: Least is the least number of questions, without lies the least q with 2^q at least n.
func TestLeast(t *testing.T) {
	l := newPlayer(true)
	for n := 1; n <= 40; n++ {
		for e := range 3 {
			q, err := Least(n, e)
			if e < 2 && q != leastOf(n, e) || err != api.OK {
				t.Error(n, e, q, err)
			}
			state := append([]int{n}, make([]int, e)...)
			if ok := l.wins(state, q); !ok {
				t.Error(n, e, q)
			}
			if q > 0 && l.wins(state, q-1) {
				t.Error(n, e, q)
			}
		}
	}
}

// P6.7: what is out of bounds.
func TestLeastErrors(t *testing.T) {
	for _, x := range [][2]int{
		{0, 0}, {41, 0}, {-1, 1}, {1, -1}, {1, 3}, {40, 3}, {0, 3}, {math.MaxInt, 0}, {math.MinInt, 0}, {1, math.MaxInt}, {1, math.MinInt},
		{1<<32 + 1, 0}, {1, 1 << 32}, {math.MaxInt, math.MaxInt}, {math.MinInt, math.MinInt},
	} {
		if q, e := Least(x[0], x[1]); q != 0 || e != api.ErrArg {
			t.Error(x, q, e)
		}
	}
}
