package learn

import (
	"math"
	"math/bits"
	"reflect"
	"slices"
	"testing"

	"planchet/api"
)

// everyClass calls f with each class on p points, p at most 3.
func everyClass(p int, f func(class []int)) {
	for set := 1; set < 1<<(1<<p); set++ {
		f(members(set))
	}
}

// members returns what is in a set.
func members(set int) []int {
	var l []int
	for i := range 62 {
		if set&(1<<i) != 0 {
			l = append(l, i)
		}
	}
	return l
}

// manyClasses calls f with each class on up to 3 points, with n classes of each size on 4 and 5 points, and with some that have a rule.
func manyClasses(n int, f func(p int, class []int)) {
	for p := 1; p <= 3; p++ {
		everyClass(p, func(class []int) { f(p, class) })
	}
	r := uint64(1)
	for p := 4; p <= api.MaxPoints; p++ {
		for size := 1; size <= api.MaxClass; size++ {
			for range n {
				f(p, someClass(p, size, &r))
			}
		}
		for _, class := range ruled(p) {
			f(p, class)
		}
	}
}

// someClass returns a class of so many concepts.
func someClass(p, size int, r *uint64) []int {
	var class []int
	for len(class) < size {
		*r = *r*6364136223846793005 + 1442695040888963407
		if concept := int(*r>>33) % (1 << p); !slices.Contains(class, concept) {
			class = append(class, concept)
		}
	}
	slices.Sort(class)
	return class
}

// ruled returns the classes on p points of single points (with and without nothing), of beginnings, of evens, of the first 16 and of the last 16 concepts.
func ruled(p int) [][]int {
	var single, beginnings, even, last []int
	for x := range p {
		single = append(single, 1<<x)
		beginnings = append(beginnings, 1<<x-1)
	}
	for c := range 1 << p {
		if bits.OnesCount(uint(c))%2 == 0 {
			even = append(even, c)
		}
		if c >= 1<<p-16 {
			last = append(last, c)
		}
	}
	return [][]int{single, append([]int{0}, single...), append(beginnings, 1<<p-1), even, members(1<<16 - 1), last}
}

// has returns 1 if the point x is in a concept, else 0.
func has(concept, x int) int {
	if slices.Contains(members(concept), x) {
		return 1
	}
	return 0
}

// agreeing returns the concepts of l for which x has the value y.
func agreeing(l []int, x, y int) []int {
	var out []int
	for _, concept := range l {
		if has(concept, x) == y {
			out = append(out, concept)
		}
	}
	return out
}

// everyExamples calls f with all slices of up to n examples on p points.
func everyExamples(p, n int, f func([][2]int)) {
	var add func(l [][2]int)
	add = func(l [][2]int) {
		f(l)
		if len(l) == n {
			return
		}
		for x := range p {
			for y := range 2 {
				add(append(slices.Clip(l), [2]int{x, y}))
			}
		}
	}
	add(nil)
}

// allLeft returns the concepts that agree with all examples.
func allLeft(class []int, examples [][2]int) []int {
	for _, e := range examples {
		class = agreeing(class, e[0], e[1])
	}
	return class
}

// P4.1: what is left by any examples; none by those that go against each other.
func TestLeft(t *testing.T) {
	for p := 1; p <= 3; p++ {
		everyClass(p, func(class []int) {
			everyExamples(p, 3, func(examples [][2]int) {
				if l, e := Left(p, class, examples); !slices.Equal(l, allLeft(class, examples)) || e != api.OK {
					t.Error(p, class, examples, l, e)
				}
			})
		})
	}
	manyClasses(2, func(p int, class []int) {
		everyExamples(p, 2, func(examples [][2]int) {
			if l, e := Left(p, class, examples); !slices.Equal(l, allLeft(class, examples)) || e != api.OK {
				t.Error(p, class, examples, l, e)
			}
		})
	})
	if l, e := Left(1, []int{0, 1}, [][2]int{{0, 0}, {0, 1}}); len(l) != 0 || e != api.OK {
		t.Error(l, e)
	}
}

// P4.1: 20 examples are few enough, 21 are too many.
func TestLeftMany(t *testing.T) {
	examples := slices.Repeat([][2]int{{1, 1}, {0, 0}}, 10)
	if l, e := Left(2, []int{0, 1, 2, 3}, examples); !slices.Equal(l, []int{2}) || e != api.OK {
		t.Error(l, e)
	}
	if l, e := Left(2, []int{0, 1, 2, 3}, append(examples, [2]int{0, 0})); len(l) != 0 || e != api.ErrArg {
		t.Error(l, e)
	}
}

// turned is Turn in the words of P4.8.
func turned(p int, class []int, set int) []int {
	var out []int
	for _, concept := range class {
		c := 0
		for x := range p {
			in := has(concept, x)
			if has(set, x) == 1 {
				in = 1 - in
			}
			c += in * 1 << x
		}
		out = append(out, c)
	}
	slices.Sort(out)
	return out
}

// P4.8: all sets of points; to turn twice is to turn back.
func TestTurn(t *testing.T) {
	manyClasses(3, func(p int, class []int) {
		for set := range 1 << p {
			l, e := Turn(p, class, set)
			if !slices.Equal(l, turned(p, class, set)) || e != api.OK {
				t.Error(p, class, set, l, e)
			}
			if back, e := Turn(p, l, set); !slices.Equal(back, class) || e != api.OK {
				t.Error(p, class, set, back, e)
			}
		}
		for _, set := range []int{-1, 1 << p, 1<<p + 1, 1 << 32, math.MaxInt, math.MinInt} {
			if l, e := Turn(p, class, set); len(l) != 0 || e != api.ErrArg {
				t.Error(p, class, set, l, e)
			}
		}
	})
}

// numbers are what the promises hold against each other.
type numbers struct{ dim, teach, ask, peel, careful, halving int }

func numbersOf(t *testing.T, p int, class []int) numbers {
	var n numbers
	var e [6]api.Errno
	n.dim, e[0] = Dim(p, class)
	n.teach, e[1] = Teach(p, class)
	n.ask, e[2] = Ask(p, class)
	n.peel, e[3] = Peel(p, class)
	n.careful, e[4] = Worst(p, class, false)
	n.halving, e[5] = Worst(p, class, true)
	if e != [6]api.Errno{} {
		t.Error(p, class, e)
	}
	return n
}

// P4.10: a class without one of its concepts, and so any part of it, has no greater Dim, Ask or Peel; a class has at least 2 to the power of Dim concepts.
func TestGrowing(t *testing.T) {
	manyClasses(4, func(p int, class []int) {
		n := numbersOf(t, p, class)
		if 1<<n.dim > len(class) {
			t.Error(p, class, n)
		}
		for i := range class {
			if len(class) == 1 {
				break
			}
			part := slices.Delete(slices.Clone(class), i, i+1)
			if m := numbersOf(t, p, part); m.dim > n.dim || m.ask > n.ask || m.peel > n.peel {
				t.Error(p, class, n, part, m)
			}
		}
	})
}

// P4.12: Turn changes none of the numbers but that of the halving learner.
func TestTurning(t *testing.T) {
	manyClasses(2, func(p int, class []int) {
		n := numbersOf(t, p, class)
		for set := range 1 << p {
			l, _ := Turn(p, class, set)
			m := numbersOf(t, p, l)
			m.halving = n.halving
			if m != n {
				t.Error(p, class, set, n, m)
			}
		}
	})
}

// P4.13: the class of all concepts.
func TestAll(t *testing.T) {
	for p := 1; p <= 4; p++ {
		class := members(1<<(1<<p) - 1)
		if n := numbersOf(t, p, class); n != (numbers{p, p, p, p, p, p}) {
			t.Error(p, n)
		}
	}
}

// A class of one concept: there is nothing to ask, and no one is wrong.
func TestOne(t *testing.T) {
	for p := 1; p <= api.MaxPoints; p++ {
		for concept := range 1 << p {
			if n := numbersOf(t, p, []int{concept}); n != (numbers{}) {
				t.Error(p, concept, n)
			}
			if k, e := Key(p, []int{concept}, concept); k != 0 || e != api.OK {
				t.Error(p, concept, k, e)
			}
		}
	}
}

// badClasses are p and a class of which one is not valid.
var badClasses = []struct {
	p     int
	class []int
}{
	{0, []int{0}}, {-1, []int{0}}, {6, []int{0}}, {6, []int{0, 63}}, {64, []int{0}}, {math.MaxInt, []int{0}}, {math.MinInt, []int{0}},
	{1, nil}, {1, []int{}}, {5, nil}, {1, []int{2}}, {1, []int{-1}}, {1, []int{0, 2}}, {2, []int{4}}, {4, []int{3, 16}}, {5, []int{32}}, {5, []int{0, 31, 32}},
	{1, []int{1, 0}}, {1, []int{0, 0}}, {2, []int{0, 1, 1}}, {2, []int{0, 2, 1}}, {3, []int{-1, 0}}, {3, []int{1, math.MaxInt}}, {3, []int{math.MinInt, 1}},
	{5, members(1<<17 - 1)}, {4, members(1<<17 - 1)}, {5, members(1<<32 - 1)}, {5, make([]int, 100000)}, {0, nil}, {3, []int{1 << 32}}, {5, []int{1, 1 << 32}},
}

func TestBadClasses(t *testing.T) {
	for i, bad := range badClasses {
		p, class := bad.p, bad.class
		checkBad(t, i, p, class, nil, 0)
		for name, f := range map[string]func(int, []int) (int, api.Errno){"Dim": Dim, "Teach": Teach, "Ask": Ask, "Peel": Peel} {
			if n, e := f(p, class); n != 0 || e != api.ErrArg {
				t.Error(name, i, n, e)
			}
		}
		for _, halving := range []bool{false, true} {
			if n, e := Worst(p, class, halving); n != 0 || e != api.ErrArg {
				t.Error("Worst", i, n, e)
			}
		}
		if l, e := Tree(p, class); len(l) != 0 || e != api.ErrArg {
			t.Error("Tree", i, l, e)
		}
		for _, l := range [][]Node{nil, {}, {{0, -1, -1}}, {{-1, 7, 0}}} {
			if n, ok, e := Check(p, class, l); n != 0 || ok || e != api.ErrArg {
				t.Error("Check", i, l, n, ok, e)
			}
		}
		for _, concept := range append([]int{0, 1, -1, 32}, class[:min(len(class), 20)]...) {
			if k, e := Key(p, class, concept); k != 0 || e != api.ErrArg {
				t.Error("Key", i, concept, k, e)
			}
		}
		if l, e := Turn(p, class, 0); len(l) != 0 || e != api.ErrArg {
			t.Error("Turn", i, l, e)
		}
	}
}

// checkBad checks that Left (for the point 0), Say and Halve return ErrArg.
func checkBad(t *testing.T, i, p int, class []int, examples [][2]int, x int) {
	if x == 0 {
		if l, e := Left(p, class, examples); len(l) != 0 || e != api.ErrArg {
			t.Error("Left", i, p, class, examples, l, e)
		}
	}
	if y, e := Say(p, class, examples, x); y != 0 || e != api.ErrArg {
		t.Error("Say", i, p, class, examples, x, y, e)
	}
	if y, e := Halve(p, class, examples, x); y != 0 || e != api.ErrArg {
		t.Error("Halve", i, p, class, examples, x, y, e)
	}
}

// Examples and points that are none; also where no concept is left.
func TestBadExamples(t *testing.T) {
	for p := 1; p <= api.MaxPoints; p++ {
		class := []int{1<<p - 1}
		for _, n := range []int{-1, p, 5, 1 << 32, math.MaxInt, math.MinInt} {
			for i, examples := range [][][2]int{{{n, 0}}, {{n, 1}}, {{0, 1}, {n, 1}}, {{0, 0}, {n, 0}}, {{n, n}}} {
				checkBad(t, i, p, class, examples, 0)
			}
			for i, examples := range [][][2]int{nil, {{0, 1}}, {{0, 0}}} {
				checkBad(t, i, p, class, examples, n)
			}
		}
		for i, y := range []int{-1, 2, 3, 256, math.MaxInt, math.MinInt} {
			checkBad(t, i, p, class, [][2]int{{0, y}}, 0)
			checkBad(t, i, p, class, [][2]int{{p - 1, 0}, {0, y}}, 0)
		}
		for i, n := range []int{21, 100000} {
			checkBad(t, i, p, class, slices.Repeat([][2]int{{0, 1}}, n), 0)
			checkBad(t, i, p, class, slices.Repeat([][2]int{{0, 0}}, n), 0)
		}
	}
}

// The Examples.
func TestExamples(t *testing.T) {
	if n := numbersOf(t, 2, []int{0, 1, 2, 3}); n != (numbers{2, 2, 2, 2, 2, 2}) {
		t.Error(n)
	}
	class := []int{0, 1, 2}
	if n := numbersOf(t, 2, class); n.dim != 1 || n.teach != 2 || n.peel != 1 || n.ask != 2 {
		t.Error(n)
	}
	if k, e := Key(2, class, 0); k != 3 || e != api.OK {
		t.Error(k, e)
	}
	if y, e := Say(2, class, nil, 0); y != 0 || e != api.OK {
		t.Error(y, e)
	}
}

// No argument is changed, a call has the same results again, and results share no memory.
func TestSameAgain(t *testing.T) {
	class := []int{1, 3, 6, 8, 9, 12, 15, 20, 22, 30}
	examples := [][2]int{{4, 0}}
	c, x := slices.Clone(class), slices.Clone(examples)
	left, _ := Left(5, class, nil)
	tree, _ := Tree(5, class)
	turn, _ := Turn(5, class, 0)
	l, n, u := slices.Clone(left), slices.Clone(tree), slices.Clone(turn)
	numbersOf(t, 5, class)
	Left(5, class, examples)
	Say(5, class, examples, 1)
	Halve(5, class, examples, 1)
	Key(5, class, 9)
	Turn(5, class, 31)
	if _, ok, _ := Check(5, class, tree); !ok {
		t.Error(tree)
	}
	if !slices.Equal(class, c) || !slices.Equal(examples, x) || !slices.Equal(tree, n) {
		t.Error("changed", class, examples, tree)
	}
	clear(left)
	clear(tree)
	clear(turn)
	if again, _ := Left(5, class, nil); !slices.Equal(again, l) {
		t.Error(again, l)
	}
	if again, _ := Tree(5, class); !reflect.DeepEqual(again, n) {
		t.Error(again, n)
	}
	if again, _ := Turn(5, class, 0); !slices.Equal(again, u) || !slices.Equal(class, c) {
		t.Error(again, u, class)
	}
}
