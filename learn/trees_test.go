package learn

import (
	"math"
	"slices"
	"testing"

	"planchet/api"
)

// deep reports whether there is a tree of depth d for the class l.
func deep(p int, l []int, d int) bool {
	if d == 0 {
		return len(l) >= 1
	}
	for x := range p {
		if deep(p, agreeing(l, x, 0), d-1) && deep(p, agreeing(l, x, 1), d-1) {
			return true
		}
	}
	return false
}

// greatest returns the greatest depth of a tree for the class l.
func greatest(p int, l []int) int {
	d := 0
	for deep(p, l, d+1) {
		d++
	}
	return d
}

// judge is Check by the way that leads to each Node.
func judge(p int, class []int, tree []Node) (int, bool) {
	depth := 0
	for 1<<depth-1 < len(tree) {
		depth++
	}
	if 1<<depth-1 != len(tree) {
		return 0, false
	}
	ways := make([][][2]int, len(tree))
	tellers := make([]int, len(tree))
	for at, n := range tree {
		if at > 0 && tellers[at] != 1 || n.Point < 0 || n.Point >= p {
			return 0, false
		}
		for y, next := range []int{n.Zero, n.One} {
			way := append(slices.Clip(ways[at]), [2]int{n.Point, y})
			if len(allLeft(class, way)) == 0 {
				return 0, false
			}
			if len(way) == depth {
				if next != -1 {
					return 0, false
				}
				continue
			}
			if next <= at || next >= len(tree) {
				return 0, false
			}
			tellers[next]++
			ways[next] = way
		}
	}
	return depth, true
}

// checkTree holds Check against judge, and returns its results.
func checkTree(t *testing.T, p int, class []int, tree []Node) (int, bool) {
	t.Helper()
	d, ok := judge(p, class, tree)
	n, got, e := Check(p, class, tree)
	if n != d || got != ok || e != api.OK {
		t.Error(p, class, tree, n, got, e, d, ok)
	}
	return n, got
}

// P4.2, P4.9: Dim is the greatest depth, and Tree is a tree of that depth.
func TestTree(t *testing.T) {
	manyClasses(8, func(p int, class []int) {
		want := greatest(p, class)
		if d, e := Dim(p, class); d != want || e != api.OK {
			t.Error(p, class, d, e, want)
		}
		tree, e := Tree(p, class)
		if e != api.OK || len(tree) != 1<<want-1 {
			t.Error(p, class, tree, e)
		}
		if d, ok := checkTree(t, p, class, tree); d != want || !ok {
			t.Error(p, class, tree, d, ok)
		}
	})
}

// P4.2: trees with one number changed, for the class and for a part of it.
func TestCheckChanged(t *testing.T) {
	good, bad := 0, 0
	manyClasses(1, func(p int, class []int) {
		tree, _ := Tree(p, class)
		for at := range tree {
			for _, n := range []int{-2, -1, 0, 1, 2, 3, 4, 5, 6, 7, 14, 15, 32, math.MaxInt, math.MinInt} {
				for field := range 3 {
					changed := slices.Clone(tree)
					*[]*int{&changed[at].Point, &changed[at].Zero, &changed[at].One}[field] = n
					if _, ok := checkTree(t, p, class, changed); ok {
						good++
					} else {
						bad++
					}
				}
			}
		}
		for i := range class {
			if len(class) > 1 {
				checkTree(t, p, slices.Delete(slices.Clone(class), i, i+1), tree)
			}
		}
		checkTree(t, p, class, tree[:len(tree)/2])
		checkTree(t, p, class, append(slices.Clip(tree), Node{0, -1, -1}))
	})
	if good == 0 || bad == 0 {
		t.Error(good, bad)
	}
}

// P4.2: all slices of up to one Node, and all of three with points that there are.
func TestCheckSmall(t *testing.T) {
	for _, class := range [][]int{{0}, {3}, {0, 1}, {1, 2}, {0, 1, 2}, {0, 1, 2, 3}} {
		checkTree(t, 2, class, nil)
		for n := range 4 * 4 * 4 {
			checkTree(t, 2, class, []Node{{n/16 - 1, n/4%4 - 2, n%4 - 2}})
		}
		for n := range 5 * 5 * 5 * 5 * 5 * 5 {
			var next [6]int
			for i := range next {
				next[i] = n%5 - 1
				n /= 5
			}
			for points := range 8 {
				checkTree(t, 2, class, []Node{{points & 1, next[0], next[1]}, {points >> 1 & 1, next[2], next[3]}, {points >> 2, next[4], next[5]}})
			}
		}
	}
}

// P4.2: trees of a lesser depth, in any order of their Nodes in which those that are told come later.
func TestCheckLesser(t *testing.T) {
	class := []int{0, 1, 2, 3}
	for _, x := range []struct {
		tree  []Node
		depth int
		ok    bool
	}{
		{nil, 0, true},
		{[]Node{}, 0, true},
		{[]Node{{0, -1, -1}}, 1, true},
		{[]Node{{1, -1, -1}}, 1, true},
		{[]Node{{2, -1, -1}}, 0, false},
		{[]Node{{0, 1, 2}, {1, -1, -1}, {1, -1, -1}}, 2, true},
		{[]Node{{0, 2, 1}, {1, -1, -1}, {1, -1, -1}}, 2, true},
		{[]Node{{1, 2, 1}, {0, -1, -1}, {0, -1, -1}}, 2, true},
		{[]Node{{0, 1, 1}, {1, -1, -1}, {1, -1, -1}}, 0, false},
		{[]Node{{0, 1, 2}, {1, -1, -1}, {0, -1, -1}}, 0, false},
		{[]Node{{0, 1, -1}, {1, -1, -1}}, 0, false},
		{[]Node{{0, 1, -1}, {1, 2, -1}, {1, -1, -1}}, 0, false},
		{[]Node{{0, -1, -1}, {1, -1, -1}, {1, -1, -1}}, 0, false},
		{[]Node{{0, 0, 2}, {1, -1, -1}, {1, -1, -1}}, 0, false},
		{[]Node{{0, -2, -2}}, 0, false},
	} {
		if d, ok, e := Check(2, class, x.tree); d != x.depth || ok != x.ok || e != api.OK {
			t.Error(x.tree, d, ok, e)
		}
	}
	deeper := []Node{{3, 1, 4}, {2, 3, 2}, {1, -1, -1}, {0, -1, -1}, {0, 6, 5}, {2, -1, -1}, {1, -1, -1}}
	if d, ok, e := Check(4, members(1<<16-1), deeper); d != 3 || !ok || e != api.OK {
		t.Error(d, ok, e)
	}
}

// P4.2: long slices are none, whatever is in them.
func TestCheckLong(t *testing.T) {
	class := members(1<<16 - 1)
	for _, size := range []int{31, 63, 1<<20 - 1, 1 << 20} {
		tree := make([]Node, size)
		for at := range tree {
			tree[at] = Node{at % 4, 2*at + 1, 2*at + 2}
			if 2*at+2 >= size {
				tree[at].Zero, tree[at].One = -1, -1
			}
		}
		if d, ok, e := Check(4, class, tree); d != 0 || ok || e != api.OK {
			t.Error(size, d, ok, e)
		}
		if d, ok, e := Check(4, class, make([]Node, size)); d != 0 || ok || e != api.OK {
			t.Error(size, d, ok, e)
		}
	}
}
