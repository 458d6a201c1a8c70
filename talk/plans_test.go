package talk

import (
	"math"
	"slices"
	"testing"

	"planchet/api"
)

// enough reports whether n words are enough to settle a block.
func enough(t [][]int, b block, n int) bool {
	if b.same(t, 0) || b.same(t, 1) {
		return true
	}
	if n == 0 {
		return false
	}
	for set := range 1 << api.MaxTable {
		in, out := sorted(b.rows, set)
		if enough(t, block{in, b.columns}, n-1) && enough(t, block{out, b.columns}, n-1) {
			return true
		}
		in, out = sorted(b.columns, set)
		if enough(t, block{b.rows, in}, n-1) && enough(t, block{b.rows, out}, n-1) {
			return true
		}
	}
	return false
}

// sorted returns the indices that are in a set, and the others.
func sorted(l []int, set int) (in, out []int) {
	for _, i := range l {
		if slices.Contains(listed(set), i) {
			in = append(in, i)
		} else {
			out = append(out, i)
		}
	}
	return in, out
}

// heard returns what is said from a Node on.
func heard(p []Node, at, row, column int) []int {
	n := p[at]
	if n.Leaf {
		return []int{n.Value}
	}
	known := row
	if n.Who == 1 {
		known = column
	}
	if slices.Contains(listed(n.Set), known) {
		return append([]int{1}, heard(p, n.Yes, row, column)...)
	}
	return append([]int{0}, heard(p, n.No, row, column)...)
}

// longest returns the greatest number of Nodes that speak from a Node on.
func longest(p []Node, at int) int {
	if p[at].Leaf {
		return 0
	}
	return 1 + max(longest(p, p[at].No), longest(p, p[at].Yes))
}

// rightFor reports whether p ends with each value of x.
func rightFor(x [][]int, p []Node) bool {
	for r := range x {
		for c := range x[r] {
			l := heard(p, 0, r, c)
			if l[len(l)-1] != x[r][c] {
				return false
			}
		}
	}
	return true
}

// P3.1, P3.2, P3.8: Length is enough and no less is; Plan is a plan of that length, right by what is heard.
func TestPlan(t *testing.T) {
	manyTables(300, func(x [][]int) {
		n, e := Length(x)
		if e != api.OK || !enough(x, whole(x), n) || n > 0 && enough(x, whole(x), n-1) {
			t.Error(x, n, e)
		}
		p, e := Plan(x)
		if e != api.OK || !rightFor(x, p) || longest(p, 0) != n {
			t.Error(x, p, e)
		}
		if got, ok, e := Check(x, p); got != n || !ok || e != api.OK {
			t.Error(x, p, got, ok, e)
		}
	})
}

// P3.8: Length is 0 just where all values are the same, and at most one more than either jury must say alone.
func TestLengthBounds(t *testing.T) {
	manyTables(2000, func(x [][]int) {
		n, _ := Length(x)
		same := whole(x).same(x, 0) || whole(x).same(x, 1)
		one, e := Once(x)
		other, f := Once(over(x))
		if (n == 0) != same || n > one+1 || n > other+1 || e != api.OK || f != api.OK {
			t.Error(x, n, one, e, other, f)
		}
	})
}

// somePlan returns a plan of so many Nodes with the bits of r; a Node may be followed by any later ones.
func somePlan(nodes int, r uint64) []Node {
	next := func(n int) int {
		r = r*6364136223846793005 + 1442695040888963407
		return int(r>>33) % n
	}
	p := make([]Node, nodes)
	for at := range p {
		later := nodes - at - 1
		if later == 0 || next(5) == 0 {
			p[at] = Node{Leaf: true, Value: next(2)}
			continue
		}
		p[at] = Node{Who: next(2), Set: next(16), No: at + 1 + next(later), Yes: at + 1 + next(later)}
	}
	return p
}

// P3.1, P3.2: plans of any form: what is heard, which table they are right for, and their length, whatever leads there.
func TestSomePlans(t *testing.T) {
	for i := range uint64(3000) {
		p := somePlan(1+int(i%12), i)
		x := make([][]int, api.MaxTable)
		for r := range x {
			for c := range api.MaxTable {
				want := heard(p, 0, r, c)
				if l, e := Run(p, r, c); !slices.Equal(l, want) || e != api.OK {
					t.Error(p, r, c, l, e, want)
				}
				x[r] = append(x[r], want[len(want)-1])
			}
		}
		if n, ok, e := Check(x, p); n != longest(p, 0) || !ok || e != api.OK {
			t.Error(p, n, ok, e)
		}
		small := [][]int{x[0][:2], x[1][:2], x[2][:2]}
		if n, ok, e := Check(small, p); n != longest(p, 0) || !ok || e != api.OK {
			t.Error(small, p, n, ok, e)
		}
		r, c := int(i%4), int(i/4%4)
		x[r][c] = 1 - x[r][c]
		if n, ok, e := Check(x, p); n != 0 || ok || e != api.OK {
			t.Error(x, p, n, ok, e)
		}
	}
}

// P3.1: the length counts ways that no row or column leads; a plan may be longer than need be, and share Nodes.
func TestCheckLength(t *testing.T) {
	zero, one := Node{Leaf: true}, Node{Leaf: true, Value: 1}
	chain := make([]Node, maxNodes)
	for at := range chain {
		chain[at] = Node{No: at + 1, Yes: at + 1}
	}
	chain[maxNodes-1] = one
	for _, x := range []struct {
		t    [][]int
		p    []Node
		want int
	}{
		{[][]int{{0}}, []Node{zero}, 0},
		{[][]int{{1, 1}, {1, 1}}, []Node{one, zero}, 0},
		{[][]int{{0}}, []Node{{Set: 0, No: 3, Yes: 1}, {Who: 1, Set: 15, No: 2, Yes: 2}, {Set: 14, No: 3, Yes: 4}, zero, one}, 3},
		{[][]int{{1}}, chain, maxNodes - 1},
		{[][]int{{0, 1}}, []Node{{Who: 1, Set: 2, No: 1, Yes: 2}, zero, one}, 1},
		{[][]int{{0, 1}}, []Node{{Who: 1, Set: 10, No: 1, Yes: 2}, zero, one}, 1},
		{[][]int{{0}, {1}}, []Node{{Who: 0, Set: 14, No: 1, Yes: 2}, zero, one}, 1},
		{[][]int{{0, 1}, {1, 0}}, []Node{{Set: 2, No: 1, Yes: 2}, {Who: 1, Set: 2, No: 3, Yes: 4}, {Who: 1, Set: 1, No: 3, Yes: 4}, zero, one}, 2},
	} {
		if n, ok, e := Check(x.t, x.p); n != x.want || !ok || e != api.OK {
			t.Error(x, n, ok, e)
		}
	}
	for _, x := range []struct {
		t [][]int
		p []Node
	}{
		{[][]int{{0}}, []Node{one}}, {[][]int{{0, 1}}, []Node{zero}}, {[][]int{{0, 1}}, []Node{{Set: 2, No: 1, Yes: 2}, zero, one}}, {[][]int{{0, 1}}, []Node{{Who: 1, Set: 1, No: 1, Yes: 2}, zero, one}}, {[][]int{{0}}, chain},
	} {
		if n, ok, e := Check(x.t, x.p); n != 0 || ok || e != api.OK {
			t.Error(x, n, ok, e)
		}
	}
}

// badPlans are no plans.
func badPlans() [][]Node {
	zero, one := Node{Leaf: true}, Node{Leaf: true, Value: 1}
	bad := [][]Node{nil, {}, make([]Node, 1), make([]Node, 101), make([]Node, 100000), slices.Repeat([]Node{zero}, 101)}
	for _, n := range []int{-1, 2, math.MaxInt, math.MinInt} {
		bad = append(bad, []Node{{Leaf: true, Value: n}}, []Node{one, {Leaf: true, Value: n}})
	}
	for _, n := range []int{-1, 1, 2, math.MaxInt, math.MinInt} {
		bad = append(bad, []Node{{Leaf: true, Who: n}}, []Node{{Leaf: true, Set: n}}, []Node{{Leaf: true, No: n}, one, zero}, []Node{{Leaf: true, Yes: n}, one, zero})
		bad = append(bad, []Node{{Value: n, No: 1, Yes: 2}, zero, one}, []Node{zero, {Value: n, No: 2, Yes: 2}, zero})
	}
	for _, n := range []int{-1, 2, math.MaxInt, math.MinInt} {
		bad = append(bad, []Node{{Who: n, No: 1, Yes: 2}, zero, one}, []Node{zero, {Who: n, No: 2, Yes: 2}, zero})
	}
	for _, n := range []int{-1, 16, 17, math.MaxInt, math.MinInt} {
		bad = append(bad, []Node{{Set: n, No: 1, Yes: 2}, zero, one}, []Node{zero, {Set: n, No: 2, Yes: 2}, zero})
	}
	for _, n := range []int{-1, 0, 1, 4, math.MaxInt, math.MinInt} {
		bad = append(bad, []Node{one, {No: n, Yes: 2}, zero, one}, []Node{one, {No: 2, Yes: n}, zero, one})
	}
	bad = append(bad, []Node{{Leaf: true, No: 1, Yes: 1}, zero}, []Node{{Leaf: true, Set: 1, No: 1, Yes: 2}, zero, one})
	return append(bad, []Node{{}}, []Node{zero, {}}, []Node{{No: 1, Yes: 1}}, []Node{{No: 1, Yes: 1}, {}}, []Node{{No: 1, Yes: 1}, {No: 1, Yes: 1}})
}

// P3.1, P3.2: what is no plan: not right for any table, and no argument of Run.
func TestBadPlans(t *testing.T) {
	for i, p := range badPlans() {
		same := slices.Clone(p)
		for _, x := range [][][]int{{{0}}, {{1}}, {{0, 1}}, {{0}, {1}}} {
			if n, ok, e := Check(x, p); n != 0 || ok || e != api.OK {
				t.Error(i, x, n, ok, e)
			}
		}
		for _, n := range []int{-1, 0, 3, 4} {
			if l, e := Run(p, n, 0); len(l) != 0 || e != api.ErrArg {
				t.Error(i, n, l, e)
			}
		}
		if !slices.Equal(p, same) {
			t.Error("changed", i)
		}
	}
}

// P3.2: rows and columns are from 0 to 3, whatever table the plan is for.
func TestRunErrors(t *testing.T) {
	for _, p := range [][]Node{{{Leaf: true, Value: 1}}, {{Set: 8, No: 1, Yes: 2}, {Leaf: true}, {Leaf: true, Value: 1}}} {
		for _, n := range []int{-1, 4, 64, math.MaxInt, math.MinInt} {
			for _, other := range []int{0, 3, n} {
				if l, e := Run(p, n, other); len(l) != 0 || e != api.ErrArg {
					t.Error(p, n, other, l, e)
				}
				if l, e := Run(p, other, n); len(l) != 0 || e != api.ErrArg {
					t.Error(p, other, n, l, e)
				}
			}
		}
		if l, e := Run(p, 3, 0); l[len(l)-1] != 1 || len(l) != len(p)/2+1 || e != api.OK {
			t.Error(p, l, e)
		}
	}
}
