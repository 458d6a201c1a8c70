package evade

import (
	"math"
	"math/bits"
	"slices"
	"testing"

	"planchet/api"
)

// pairsThatFold takes the words of the chapter one by one.
func pairsThatFold(f []int) [][2]int {
	var l [][2]int
	for _, s := range f {
		var others []int
		for _, t := range f {
			if t != s && isPart(s, t) {
				others = append(others, t)
			}
		}
		if s != 0 && len(others) == 1 && len(elements(others[0])) == len(elements(s))+1 {
			l = append(l, [2]int{s, others[0]})
		}
	}
	return l
}

func without(f []int, pair [2]int) []int {
	return slices.DeleteFunc(slices.Clone(f), func(s int) bool { return s == pair[0] || s == pair[1] })
}

// areFolds is what Folds must say.
func areFolds(f []int, l [][2]int) bool {
	for _, pair := range l {
		if !slices.Contains(pairsThatFold(f), pair) {
			return false
		}
		f = without(f, pair)
	}
	return len(f) == 2 && f[0] == 0 && len(elements(f[1])) == 1
}

func setsOf(f []int) uint64 {
	sets := uint64(0)
	for _, s := range f {
		sets |= 1 << s
	}
	return sets
}

// folder knows which families fold away, from all folds one after the other.
type folder map[uint64]bool

func (d folder) foldsAway(f []int) bool {
	key := setsOf(f)
	if ok, found := d[key]; found {
		return ok
	}
	ok := areFolds(f, nil)
	for _, pair := range pairsThatFold(f) {
		ok = d.foldsAway(without(f, pair)) || ok
	}
	d[key] = ok
	return ok
}

// P8.5: Folding is ErrNone just if no folds do it, from all ways to fold up to 5 elements; else Folds accepts it.
func TestFolding(t *testing.T) {
	d := folder{}
	away := 0
	small(5, func(n int, f []int) {
		l, e := Folding(n, f)
		if !d.foldsAway(f) {
			if len(l) != 0 || e != api.ErrNone {
				t.Fatal(n, f, l, e)
			}
			return
		}
		away++
		if !areFolds(f, l) || e != api.OK {
			t.Fatal(n, f, l, e)
		}
		if ok, e := Folds(n, f, l); !ok || e != api.OK {
			t.Fatal(n, f, l, e)
		}
	})
	if away < 500 {
		t.Error(away)
	}
}

// hasHoles reports whether a family has holes: whether the sets that lack one element of a set, modulo 2, have not half the rank that there are sets. No fold changes this, and one set of one element has none.
func hasHoles(sets uint64) bool {
	var basis [64]uint64
	rank := 0
	for _, s := range members(sets) {
		row := uint64(0)
		for _, x := range elements(s) {
			row |= 1 << (s - 1<<x)
		}
		for row != 0 {
			top := bits.Len64(row) - 1
			if basis[top] == 0 {
				basis[top] = row
				rank++
				break
			}
			row ^= basis[top]
		}
	}
	return 2*rank != bits.OnesCount64(sets)
}

// isFalling reports whether at least as many sets have an element as have the next one: each family is such a one, once its elements are numbered so.
func isFalling(sets uint64) bool {
	last := 64
	for _, out := range lackingEach {
		with := bits.OnesCount64(sets &^ out)
		if with > last {
			return false
		}
		last = with
	}
	return true
}

// lackingEach has for each element the sets without it.
var lackingEach = func() (l [6]uint64) {
	for s := range 64 {
		for x := range 6 {
			if s&(1<<x) == 0 {
				l[x] |= 1 << s
			}
		}
	}
	return l
}()

// P8.5, P8.10: of 6 elements, numbered in a suitable way, all families without holes fold away, and no others; what is early and not empty folds away; what folds away has Sum 0.
func TestFoldingSix(t *testing.T) {
	at, away, early := 0, 0, 0
	families(6, func(sets uint64) {
		if !isFalling(sets) {
			return
		}
		at++
		f := members(sets)
		if at%20 == 0 {
			if ok, _ := Early(6, f); ok && sets != 0 {
				early++
				if hasHoles(sets) {
					t.Fatal(f)
				}
			}
		}
		if sumOf(f) != 0 && at%20 != 0 {
			return
		}
		l, e := Folding(6, f)
		if sets == 0 || hasHoles(sets) {
			if len(l) != 0 || e != api.ErrNone {
				t.Fatal(f, l, e)
			}
			return
		}
		away++
		if sum, _ := Sum(6, f); sum != 0 || e != api.OK {
			t.Fatal(f, l, e, sum)
		}
		if ok, e := Folds(6, f, l); !ok || e != api.OK {
			t.Fatal(f, l, e)
		}
	})
	if away < 1000 || early < 50 {
		t.Error(at, away, early)
	}
}

// P8.10: a family that is not empty, and settled early, folds away; Folds accepts Folding; what folds away has Sum 0.
func TestFoldingEarly(t *testing.T) {
	some(10007, func(n int, f []int) {
		l, e := Folding(n, f)
		if early, _ := Early(n, f); early && len(f) > 0 && e != api.OK {
			t.Fatal(n, f, l, e)
		}
		if e != api.OK {
			return
		}
		if sum, _ := Sum(n, f); sum != 0 {
			t.Fatal(n, f, sum)
		}
		if ok, e := Folds(n, f, l); !ok || !areFolds(f, l) || e != api.OK {
			t.Fatal(n, f, l, ok, e)
		}
	})
}

// P8.5: families of each number of elements that fold away, and some that do not.
func TestFoldingKinds(t *testing.T) {
	for n := 1; n <= 6; n++ {
		for _, f := range [][]int{nil, {0}, whole(n)[:1<<n-1]} {
			if l, e := Folding(n, f); len(l) != 0 || e != api.ErrNone {
				t.Error(n, f, l, e)
			}
			if ok, e := Folds(n, f, nil); ok || e != api.OK {
				t.Error(n, f, ok, e)
			}
		}
		for x := range n {
			if l, e := Folding(n, []int{0, 1 << x}); len(l) != 0 || e != api.OK {
				t.Error(n, x, l, e)
			}
			if ok, e := Folds(n, []int{0, 1 << x}, nil); !ok || e != api.OK {
				t.Error(n, x, ok, e)
			}
		}
		if l, e := Folding(n, whole(n)); len(l) != 1<<(n-1)-1 || !areFolds(whole(n), l) || e != api.OK {
			t.Error(n, l, e)
		}
	}
}

// P8.5: Folds accepts any folds that do it, and refuses what does not, by the chapter's words.
func TestFolds(t *testing.T) {
	r := uint64(5)
	accepted, refused := 0, 0
	some(10007, func(n int, f []int) {
		if _, e := Folding(n, f); e != api.OK && next(&r, 8) > 0 {
			return
		}
		var l [][2]int
		left := f
		for pairs := pairsThatFold(left); len(pairs) > 0; pairs = pairsThatFold(left) {
			pair := pairs[next(&r, len(pairs))]
			l = append(l, pair)
			left = without(left, pair)
		}
		for range 6 {
			q := slices.Clone(l)
			for range next(&r, 3) {
				at := next(&r, len(q)+1)
				switch {
				case at == len(q):
					q = append(q, [2]int{next(&r, 1<<n), next(&r, 1<<n)})
				case next(&r, 3) == 0:
					q = slices.Delete(q, at, at+1)
				case next(&r, 2) == 0:
					to := next(&r, len(q))
					q[at], q[to] = q[to], q[at]
				default:
					q[at][next(&r, 2)] = next(&r, 1<<n+2) - 1
				}
			}
			want := areFolds(f, q)
			if want {
				accepted++
			} else {
				refused++
			}
			if ok, e := Folds(n, f, q); ok != want || e != api.OK {
				t.Fatal(n, f, q, ok, e)
			}
		}
	})
	if accepted < 2000 || refused < 2000 {
		t.Error(accepted, refused)
	}
}

// P8.5: what are no folds.
func TestFoldsBad(t *testing.T) {
	path := []int{0, 1, 2, 3, 4, 6}
	for _, x := range []struct {
		l    [][2]int
		want bool
	}{
		{[][2]int{{1, 3}, {4, 6}}, true},
		{[][2]int{{4, 6}, {1, 3}}, true},
		{[][2]int{{4, 6}, {2, 3}}, true},
		{[][2]int{{1, 3}, {2, 6}}, true},
		{nil, false},
		{[][2]int{{1, 3}}, false},
		{[][2]int{{1, 3}, {4, 6}, {0, 2}}, false},
		{[][2]int{{1, 3}, {4, 6}, {2, 6}}, false},
		{[][2]int{{1, 3}, {4, 6}, {2, 2}}, false},
		{[][2]int{{3, 1}, {4, 6}}, false},
		{[][2]int{{2, 3}, {4, 6}}, false},
		{[][2]int{{1, 3}, {1, 3}}, false},
		{[][2]int{{1, 3}, {3, 6}}, false},
		{[][2]int{{1, 3}, {4, 4}}, false},
		{[][2]int{{0, 1}, {4, 6}}, false},
		{[][2]int{{5, 7}, {1, 3}, {4, 6}}, false},
		{slices.Repeat([][2]int{{1, 3}}, 1000000), false},
	} {
		if ok, e := Folds(3, path, x.l); ok != x.want || e != api.OK {
			t.Error(x, ok, e)
		}
	}
	for _, s := range []int{-1, -64, 8, 9, 63, 64, 65, 67, math.MaxInt, math.MinInt, math.MinInt + 1, 1 << 32, 1<<32 + 1, 1<<32 + 3} {
		for _, pair := range [][2]int{{s, 3}, {1, s}, {s, s}} {
			for _, l := range [][][2]int{{pair, {4, 6}}, {{4, 6}, pair}, {pair}} {
				if ok, e := Folds(3, path, l); ok || e != api.OK {
					t.Error(l, ok, e)
				}
			}
		}
	}
	// A set of one element and the empty set do not fold.
	for _, l := range [][][2]int{{{0, 1}}, {{1, 0}}, {{1, 1}}, {{0, 0}}} {
		if ok, e := Folds(1, []int{0, 1}, l); ok || e != api.OK {
			t.Error(l, ok, e)
		}
	}
}
