package order

import (
	"math"
	"slices"
	"testing"

	"planchet/api"
)

// agreeing is a set of sequences, by their indices.
type agreeing [12]uint64

// leasts knows how many comparisons single out one of some sequences. It knows nothing of orders.
type leasts struct {
	n      int
	before [6][6]agreeing
	known  map[agreeing]int
}

func newLeasts(n int) *leasts {
	l := &leasts{n: n, known: map[agreeing]int{}}
	for at, s := range sequences(n) {
		for i := range n {
			for j := range n {
				if i != j && stands(s, i, j) {
					l.before[i][j][at/64] |= 1 << (at % 64)
				}
			}
		}
	}
	return l
}

func (a agreeing) and(b agreeing) agreeing {
	for i := range a {
		a[i] &= b[i]
	}
	return a
}

// least returns the least number of comparisons for the sequences of a set.
func (l *leasts) least(set agreeing) int {
	if n, ok := l.known[set]; ok {
		return n
	}
	best := -1
	for i := range l.n {
		for j := range i {
			one, other := set.and(l.before[i][j]), set.and(l.before[j][i])
			if one == (agreeing{}) || other == (agreeing{}) {
				continue
			}
			if n := 1 + max(l.least(one), l.least(other)); best < 0 || n < best {
				best = n
			}
		}
	}
	best = max(best, 0)
	l.known[set] = best
	return best
}

// of returns the set of the lines of an order.
func (l *leasts) of(o []int) agreeing {
	var set agreeing
	for i := range set {
		set[i] = ^uint64(0)
	}
	if l.n == 1 {
		return agreeing{1}
	}
	for i := range l.n {
		for j := range l.n {
			if above(o, i, j) {
				set = set.and(l.before[i][j])
			} else if i != j && !above(o, j, i) {
				set = set.and(l.before[i][j].or(l.before[j][i]))
			}
		}
	}
	return set
}

func (a agreeing) or(b agreeing) agreeing {
	for i := range a {
		a[i] |= b[i]
	}
	return a
}

// P7.6: Need is the least number of comparisons, from all ways to compare.
func TestNeed(t *testing.T) {
	tables := []*leasts{nil}
	for n := 1; n <= 6; n++ {
		tables = append(tables, newLeasts(n))
	}
	over := 0
	orders(401, func(o []int) {
		l := tables[len(o)]
		want := l.least(l.of(o))
		if n, e := Need(o); n != want || e != api.OK {
			t.Error(o, n, want, e)
		}
		if count, _ := Count(o); want > 0 && count <= 1<<(want-1) {
			over++
		}
	})
	if over == 0 {
		t.Error("no order needs more than its lines ask for")
	}
}

// P7.12: Need of free elements, and 2 to its power is at least Count.
func TestNeedNumbers(t *testing.T) {
	for i, want := range []int{0, 1, 3, 5, 7, 10} {
		if n, e := Need(make([]int, i+1)); n != want || e != api.OK {
			t.Error(i+1, n, e)
		}
	}
	orders(401, func(o []int) {
		n, _ := Need(o)
		if count, e := Count(o); 1<<n < count || e != api.OK {
			t.Error(o, n, count, e)
		}
	})
}

// P7.12, P7.13: a pair more never makes Need greater, and turned over it stays.
func TestNeedAdd(t *testing.T) {
	check := func(o []int) {
		n, _ := Need(o)
		turned, _ := Turn(o)
		if m, e := Need(turned); m != n || e != api.OK {
			t.Error(o, n, m, e)
		}
		for i := range o {
			for j := range o {
				if !free(o, i, j) {
					continue
				}
				more, _ := Add(o, i, j)
				if m, e := Need(more); m > n || e != api.OK {
					t.Error(o, i, j, n, m, e)
				}
			}
		}
	}
	for n := 1; n <= 4; n++ {
		some(n, 1, check)
	}
	some(5, 7, check)
	some(6, 20011, check)
	check(make([]int, 6))
}

// follows returns the length of the plan from an index on, and whether it singles out one of the lines on each way, both replies being possible each time.
func follows(lines [][]int, p []Node, at int) (int, bool) {
	if at == -1 {
		return 0, len(lines) == 1
	}
	less, more := divided(lines, p[at].A, p[at].B)
	if len(less) == 0 || len(more) == 0 {
		return 0, false
	}
	n, ok := follows(less, p, p[at].Less)
	m, alsoOk := follows(more, p, p[at].More)
	return 1 + max(n, m), ok && alsoOk
}

// judged is what Check must say.
func judged(n int, lines [][]int, p []Node) (int, bool) {
	if len(p) == 0 {
		return 0, len(lines) == 1
	}
	for at, c := range p {
		if c.A < 0 || c.A >= n || c.B < 0 || c.B >= n || c.A == c.B {
			return 0, false
		}
		for _, to := range []int{c.Less, c.More} {
			if to != -1 && (to <= at || to >= len(p)) {
				return 0, false
			}
		}
	}
	length, ok := follows(lines, p, 0)
	if !ok || len(p) > 800 {
		return 0, false
	}
	return length, true
}

// P7.6, P7.12: Sort is a plan with the length of Need, and empty if all is settled; Check accepts it.
func TestSort(t *testing.T) {
	withLines(401, func(o []int, lines [][]int) {
		p, e := Sort(o)
		n, _ := Need(o)
		if length, ok := judged(len(o), lines, p); length != n || !ok || e != api.OK {
			t.Error(o, p, length, ok, n, e)
		}
		if length, ok, e := Check(o, p); length != n || !ok || e != api.OK {
			t.Error(o, p, length, ok, n, e)
		}
		if (len(p) == 0) != !anyFree(o) {
			t.Error(o, p)
		}
	})
}

// divided returns the lines in which a stands before b, and the others.
func divided(lines [][]int, a, b int) (less, more [][]int) {
	for _, line := range lines {
		if stands(line, a, b) {
			less = append(less, line)
		} else {
			more = append(more, line)
		}
	}
	return less, more
}

// somePlan appends to p some plan that singles out one of the lines, and returns its first index. No way leads to some of its Nodes, and those that follow may stand in any order.
func somePlan(n int, lines [][]int, p []Node, r *uint64) ([]Node, int) {
	if len(lines) == 1 {
		return p, -1
	}
	for {
		a, b := next(r, n), next(r, n)
		parts := [2][][]int{}
		parts[0], parts[1] = divided(lines, a, b)
		if a == b || len(parts[0]) == 0 || len(parts[1]) == 0 {
			continue
		}
		at := len(p)
		p = append(p, Node{A: a, B: b})
		if next(r, 8) == 0 {
			p = append(p, Node{A: n - 1, B: 0, Less: -1, More: -1})
		}
		to, first := [2]int{}, next(r, 2)
		p, to[first] = somePlan(n, parts[first], p, r)
		p, to[1-first] = somePlan(n, parts[1-first], p, r)
		p[at].Less, p[at].More = to[0], to[1]
		return p, at
	}
}

// P7.6: Check accepts any plan, also a long one, and refuses what is none, by what becomes of the lines.
func TestCheck(t *testing.T) {
	r := uint64(3)
	accepted, refused := 0, 0
	withLines(4001, func(o []int, lines [][]int) {
		p, _ := somePlan(len(o), lines, nil, &r)
		for range 12 {
			q := slices.Clone(p)
			for range next(&r, 3) {
				if len(q) == 0 {
					break
				}
				c := &q[next(&r, len(q))]
				*[]*int{&c.A, &c.B, &c.Less, &c.More}[next(&r, 4)] = next(&r, len(q)+3) - 2
			}
			want, ok := judged(len(o), lines, q)
			if ok {
				accepted++
			} else {
				refused++
			}
			if n, right, e := Check(o, q); n != want || right != ok || e != api.OK {
				t.Fatal(o, q, n, right, e, want, ok)
			}
		}
	})
	if accepted < 10000 || refused < 10000 {
		t.Error(accepted, refused)
	}
}

// P7.6: what is a plan, and what is none.
func TestCheckPlans(t *testing.T) {
	for _, x := range []struct {
		o    []int
		p    []Node
		want int
		ok   bool
	}{
		{[]int{0}, nil, 0, true},
		{[]int{0}, []Node{}, 0, true},
		{[]int{6, 4, 0}, nil, 0, true},
		{[]int{0, 0}, nil, 0, false},
		{[]int{0}, []Node{{0, 0, -1, -1}}, 0, false},
		{[]int{2, 0}, []Node{{0, 1, -1, -1}}, 0, false},
		{[]int{0, 0}, []Node{{0, 1, -1, -1}}, 1, true},
		{[]int{0, 0}, []Node{{1, 0, -1, -1}}, 1, true},
		{[]int{0, 0}, []Node{{1, 1, -1, -1}}, 0, false},
		{[]int{0, 0}, []Node{{0, 1, 0, -1}}, 0, false},
		{[]int{0, 0}, []Node{{0, 1, 1, -1}}, 0, false},
		{[]int{0, 0}, []Node{{0, 1, 1, -1}, {0, 1, -1, -1}}, 0, false},
		{[]int{0, 0}, []Node{{0, 1, -1, -1}, {1, 0, 2, -1}, {1, 0, -1, -1}}, 1, true},
		{[]int{0, 0}, []Node{{0, 1, -1, -1}, {1, 0, 1, -1}}, 0, false},
		{[]int{0, 0}, []Node{{0, 1, -1, -1}, {0, 0, -1, -1}}, 0, false},
		{[]int{0, 0}, []Node{{0, 1, -1, -1}, {0, 2, -1, -1}}, 0, false},
		{[]int{0, 0}, []Node{{0, 1, -1, -1}, {0, 1, -1, 0}}, 0, false},
		{[]int{0, 0}, []Node{{0, 1, -1, -1}, {0, 1, -1, -2}}, 0, false},
		{[]int{12, 12, 0, 0}, []Node{{0, 1, 1, 1}, {2, 3, -1, -1}}, 2, true},
		{[]int{12, 12, 0, 0}, []Node{{0, 1, 1, -1}, {2, 3, -1, -1}}, 0, false},
		{[]int{12, 12, 0, 0}, []Node{{0, 1, 1, 1}, {0, 3, -1, -1}}, 0, false},
		{[]int{2, 0, 0}, []Node{{0, 2, 1, -1}, {1, 2, -1, -1}}, 2, true},
		{[]int{2, 0, 0}, []Node{{0, 2, -1, 1}, {1, 2, -1, -1}}, 0, false},
		{[]int{2, 0, 0}, []Node{{2, 0, -1, 1}, {1, 2, -1, -1}}, 2, true},
		{[]int{0, 0, 0}, []Node{{0, 1, 1, 3}, {1, 2, -1, 2}, {0, 2, -1, -1}, {0, 2, -1, 4}, {1, 2, -1, -1}}, 3, true},
		{[]int{0, 0, 0}, []Node{{0, 1, 1, 3}, {1, 2, -1, 4}, {0, 2, -1, -1}, {0, 2, -1, 4}, {1, 2, -1, -1}}, 0, false},
	} {
		if n, ok, e := Check(x.o, x.p); n != x.want || ok != x.ok || e != api.OK {
			t.Error(x, n, ok, e)
		}
	}
	for _, n := range []int{-2, -1, 2, 3, 64, math.MaxInt, math.MinInt, 1 << 32} {
		for _, c := range []Node{{n, 0, -1, -1}, {1, n, -1, -1}, {n, n, -1, -1}, {0, 1, n, -1}, {0, 1, -1, n}} {
			for _, p := range [][]Node{{c}, {{0, 1, -1, -1}, c}} {
				if c == (Node{0, 1, -1, -1}) {
					continue
				}
				if k, ok, e := Check([]int{0, 0}, p); k != 0 || ok || e != api.OK {
					t.Error(p, k, ok, e)
				}
			}
		}
	}
}

// P7.6: a plan has at most 800 Nodes, also those to which no way leads.
func TestCheckMany(t *testing.T) {
	o := make([]int, 6)
	p, _ := Sort(o)
	for len(p) < 800 {
		p = append(p, Node{5, 4, -1, -1})
	}
	if n, ok, e := Check(o, p); n != 10 || !ok || e != api.OK {
		t.Error(n, ok, e)
	}
	p = append(p, Node{5, 4, -1, -1})
	if n, ok, e := Check(o, p); n != 0 || ok || e != api.OK {
		t.Error(n, ok, e)
	}
	if n, ok, e := Check([]int{0, 0}, slices.Repeat([]Node{{0, 1, -1, -1}}, 100000)); n != 0 || ok || e != api.OK {
		t.Error(n, ok, e)
	}
}
