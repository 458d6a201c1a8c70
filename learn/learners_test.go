package learn

import (
	"slices"
	"testing"

	"planchet/api"
)

// carefulSays is what the careful learner says in the words of the section Terms.
func carefulSays(p int, left []int, x int) int {
	with, without := agreeing(left, x, 1), agreeing(left, x, 0)
	if len(with) == 0 {
		return 0
	}
	if len(without) == 0 || greatest(p, with) > greatest(p, without) {
		return 1
	}
	return 0
}

// halvingSays is what the halving learner says.
func halvingSays(left []int, x int) int {
	if 2*len(agreeing(left, x, 1)) > len(left) {
		return 1
	}
	return 0
}

// checkSay holds Say and Halve against the words for one question.
func checkSay(t *testing.T, p int, class []int, examples [][2]int, x int) {
	t.Helper()
	left := allLeft(class, examples)
	want, careful, halving := api.OK, 0, 0
	if len(left) == 0 {
		want = api.ErrState
	} else {
		careful, halving = carefulSays(p, left, x), halvingSays(left, x)
	}
	if y, e := Say(p, class, examples, x); y != careful || e != want {
		t.Error("Say", p, class, examples, x, y, e, careful, want)
	}
	if y, e := Halve(p, class, examples, x); y != halving || e != want {
		t.Error("Halve", p, class, examples, x, y, e, halving, want)
	}
}

// P4.3: what both learners say after any few examples, also where no concept is left, or none with x, or none without it.
func TestSay(t *testing.T) {
	manyClasses(2, func(p int, class []int) {
		everyExamples(p, 2, func(examples [][2]int) {
			for x := range p {
				checkSay(t, p, class, examples, x)
			}
		})
	})
}

// P4.3: where the two learners say different things: more concepts of no greater dimension, and fewer of a greater one.
func TestSayApart(t *testing.T) {
	for _, x := range []struct {
		class            []int
		careful, halving int
	}{
		{[]int{0, 1, 2, 3, 5}, 0, 1}, {[]int{0, 1, 2, 3, 4, 5, 7, 8, 16}, 1, 0}, {[]int{0, 1}, 0, 0}, {[]int{0, 1, 2, 3}, 0, 0}, {[]int{0, 1, 3}, 1, 1}, {[]int{0, 1, 2}, 0, 0}, {[]int{1, 3}, 1, 1}, {[]int{0, 2}, 0, 0}, {[]int{1}, 1, 1}, {[]int{0}, 0, 0},
	} {
		if y, e := Say(5, x.class, nil, 0); y != x.careful || e != api.OK {
			t.Error(x, y, e)
		}
		if y, e := Halve(5, x.class, nil, 0); y != x.halving || e != api.OK {
			t.Error(x, y, e)
		}
	}
}

// P4.3: 20 examples are few enough; no concept that is left is ErrState.
func TestSayState(t *testing.T) {
	class := []int{0, 1, 2}
	for _, f := range []func(int, []int, [][2]int, int) (int, api.Errno){Say, Halve} {
		if y, e := f(2, class, slices.Repeat([][2]int{{1, 1}}, 20), 1); y != 1 || e != api.OK {
			t.Error(y, e)
		}
		for _, examples := range [][][2]int{{{0, 1}, {1, 1}}, {{0, 0}, {0, 1}}, slices.Repeat([][2]int{{1, 0}, {1, 1}}, 10)} {
			for x := range 2 {
				if y, e := f(2, class, examples, x); y != 0 || e != api.ErrState {
					t.Error(examples, x, y, e)
				}
			}
		}
	}
}

// mistakes finds the greatest number of mistakes of a learner who is asked the points that were not asked before, after these examples.
func mistakes(p int, class []int, examples [][2]int, says func(int, []int, [][2]int, int) (int, api.Errno)) int {
	most := 0
	for x := range p {
		if slices.ContainsFunc(examples, func(e [2]int) bool { return e[0] == x }) {
			continue
		}
		said, _ := says(p, class, examples, x)
		for y := range 2 {
			heard := append(slices.Clip(examples), [2]int{x, y})
			if len(allLeft(class, heard)) == 0 {
				continue
			}
			n := mistakes(p, class, heard, says)
			if said != y {
				n++
			}
			most = max(most, n)
		}
	}
	return most
}

// P4.4: Worst against all orders of the points, all concepts, and what the learners say.
func TestWorst(t *testing.T) {
	check := func(p int, class []int) {
		want, halving := mistakes(p, class, nil, Say), mistakes(p, class, nil, Halve)
		if n, e := Worst(p, class, false); n != want || e != api.OK {
			t.Error("careful", p, class, n, e, want)
		}
		if n, e := Worst(p, class, true); n != halving || e != api.OK {
			t.Error("halving", p, class, n, e, halving)
		}
	}
	for p := 1; p <= 3; p++ {
		everyClass(p, func(class []int) { check(p, class) })
	}
	r := uint64(7)
	for p := 4; p <= api.MaxPoints; p++ {
		for size := 1; size <= api.MaxClass; size += 3 {
			check(p, someClass(p, size, &r))
		}
		for _, class := range ruled(p) {
			check(p, class)
		}
	}
}

// P4.4: to ask a point again makes no more mistakes.
func TestWorstAgain(t *testing.T) {
	everyClass(2, func(class []int) {
		for _, halving := range []bool{false, true} {
			says := Say
			if halving {
				says = Halve
			}
			most := 0
			for _, concept := range class {
				for asked := range 1 << 5 {
					var examples [][2]int
					wrong := 0
					for i := range 5 {
						x := asked >> i & 1
						if y, _ := says(2, class, examples, x); y != has(concept, x) {
							wrong++
						}
						examples = append(examples, [2]int{x, has(concept, x)})
					}
					most = max(most, wrong)
				}
			}
			if n, e := Worst(2, class, halving); n != most || e != api.OK {
				t.Error(class, halving, n, e, most)
			}
		}
	})
}

// fewestMistakes is what a learner needs who says the better thing each time.
func fewestMistakes(p int, left []int) int {
	most := 0
	for x := range p {
		without, with := agreeing(left, x, 0), agreeing(left, x, 1)
		if len(without) == 0 || len(with) == 0 {
			continue
		}
		zero, one := fewestMistakes(p, without), fewestMistakes(p, with)
		most = max(most, min(max(zero, one+1), max(zero+1, one)))
	}
	return most
}

// P4.9: the careful learner makes Dim mistakes, and no learner fewer; the halving one at least as many, and 2 to their power is at most the number of concepts.
func TestMistakes(t *testing.T) {
	above := 0
	manyClasses(8, func(p int, class []int) {
		n := numbersOf(t, p, class)
		if n.careful != n.dim || n.dim != fewestMistakes(p, class) || n.halving < n.dim || 1<<n.halving > len(class) {
			t.Error(p, class, n)
		}
		if n.halving > n.dim {
			above++
		}
	})
	if above == 0 {
		t.Error("the halving learner was never worse")
	}
}
