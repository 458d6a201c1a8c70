package guess

import (
	"reflect"
	"slices"
	"testing"

	"planchet/api"
)

// The chapter's examples.
func TestExamples(t *testing.T) {
	guess, code := 2*27+2*9+0*3+1, 0*27+2*9+2*3+1
	if black, white, e := Marks(4, 3, guess, code); black != 2 || white != 2 || e != api.OK {
		t.Error(black, white, e)
	}
	for _, p := range []int{2, 3} {
		if n, e := Need(p, 2); n != 3 || e != api.OK {
			t.Error(p, n, e)
		}
	}
	for lies, want := range []int{4, 7, 10} {
		if q, e := Least(16, lies); q != want || e != api.OK {
			t.Error(lies, q, e)
		}
	}
	if w, e := Weight([]int{16, 0}, 7); w != 128 || e != api.OK {
		t.Error(w, e)
	}
}

// calls returns the results of all functions of the package for the same arguments.
func calls(history [][3]int, state, question []int) []any {
	var all []any
	add := func(results ...any) { all = append(all, results...) }
	black, white, e := Marks(3, 4, 27, 11)
	add(black, white, e)
	left, e := Left(3, 4, history)
	add(left, e)
	worst, e := Worst(3, 4, history, 27)
	add(worst, e)
	code, e := Next(3, 4, history)
	add(code, e)
	need, e := Need(3, 3)
	add(need, e)
	next, e := After(state, question, true)
	add(next, e)
	weight, e := Weight(state, 9)
	add(weight, e)
	ok, e := Wins(state, 9)
	add(ok, e)
	asked, e := Ask(state, 9)
	add(asked, e)
	least, e := Least(20, 2)
	add(least, e)
	lie, e := Lie(state, question, 9)
	return append(all, lie, e)
}

// Rules 2 and 4: the same calls give the same results, no argument is changed, and no result shares memory.
func TestSameAgain(t *testing.T) {
	history := [][3]int{{27, 0, 2}, {11, 1, 1}}
	state, question := []int{1, 2, 3}, []int{1, 1, 0}
	oldHistory, oldState, oldQuestion := slices.Clone(history), slices.Clone(state), slices.Clone(question)
	first, again := calls(history, state, question), calls(history, state, question)
	for _, result := range again {
		if l, ok := result.([]int); ok {
			if len(l) == 0 {
				t.Error("an empty result tells nothing", again)
			}
			for i := range l[:cap(l)] {
				l[:cap(l)][i] = -7
			}
		}
		if e, ok := result.(api.Errno); ok && e != api.OK {
			t.Error(again)
		}
	}
	if !reflect.DeepEqual(first, calls(history, state, question)) {
		t.Error(first)
	}
	if !reflect.DeepEqual(history, oldHistory) || !slices.Equal(state, oldState) || !slices.Equal(question, oldQuestion) {
		t.Error(history, state, question)
	}
}

// within takes any number of numbers, also none.
func TestWithin(t *testing.T) {
	if !within(1, 2) || !within(1, 2, 1, 2, 2, 1) || within(1, 2, 0) || within(1, 2, 3) || within(1, 2, 1, 3) || within(1, 2, 3, 1) || within(1, 0, 1) {
		t.Error("within")
	}
}
