package talk

import (
	"math"
	"slices"
	"testing"

	"planchet/api"
)

// foolsBy reports whether l is a fooling set of v in x, by the words of the document.
func foolsBy(x [][]int, v int, l [][2]int) bool {
	for i, a := range l {
		if a[0] < 0 || a[0] >= len(x) || a[1] < 0 || a[1] >= len(x[0]) || x[a[0]][a[1]] != v {
			return false
		}
		for _, b := range l[:i] {
			if slices.Compare(b[:], a[:]) >= 0 || x[a[0]][b[1]] == v && x[b[0]][a[1]] == v {
				return false
			}
		}
	}
	return true
}

// firstFool finds the first fooling set with the most entries among all sets of entries with v.
func firstFool(x [][]int, v int) [][2]int {
	var all, best [][2]int
	for r := range x {
		for c := range x[r] {
			if x[r][c] == v {
				all = append(all, [2]int{r, c})
			}
		}
	}
	for set := range 1 << len(all) {
		var l [][2]int
		for _, i := range listed(set) {
			l = append(l, all[i])
		}
		before := func() bool {
			return slices.CompareFunc(l, best, func(a, b [2]int) int { return slices.Compare(a[:], b[:]) }) < 0
		}
		if foolsBy(x, v, l) && (len(l) > len(best) || len(l) == len(best) && before()) {
			best = l
		}
	}
	return best
}

// P3.5: the first of the fooling sets with the most entries.
func TestFool(t *testing.T) {
	manyTables(5, func(x [][]int) {
		for v := range 2 {
			want := firstFool(x, v)
			if l, e := Fool(x, v); !slices.Equal(l, want) || e != api.OK {
				t.Error(x, v, l, e, want)
			}
			if ok, e := Fools(x, v, want); !ok || e != api.OK {
				t.Error(x, v, want, ok, e)
			}
		}
	})
}

// P3.5: all slices of up to 3 entries, some of them outside the table.
func TestFools(t *testing.T) {
	for _, size := range [][2]int{{2, 2}, {2, 1}, {1, 3}} {
		everyTable(size[0], size[1], func(x [][]int) {
			var add func(l [][2]int)
			add = func(l [][2]int) {
				for v := range 2 {
					if ok, e := Fools(x, v, l); ok != foolsBy(x, v, l) || e != api.OK {
						t.Error(x, v, l, ok, e)
					}
				}
				if len(l) == 3 {
					return
				}
				for r := -1; r <= 3; r++ {
					for c := -1; c <= 3; c++ {
						add(append(slices.Clip(l), [2]int{r, c}))
					}
				}
			}
			add(nil)
		})
	}
}

// P3.5: what is no fooling set; a value that does not occur has the empty one.
func TestFoolsBad(t *testing.T) {
	x := diagonal(4)
	for _, l := range [][][2]int{{{0, 0}}, {{3, 3}}, {{0, 0}, {2, 2}}, {{0, 0}, {1, 1}, {2, 2}, {3, 3}}, nil, {}} {
		if ok, e := Fools(x, 1, l); !ok || e != api.OK {
			t.Error(l, ok, e)
		}
	}
	for _, l := range [][][2]int{
		{{0, 0}, {0, 0}}, {{1, 1}, {0, 0}}, {{0, 1}}, {{0, 0}, {1, 2}}, {{0, 4}}, {{4, 4}}, {{4, 0}}, {{-1, 0}}, {{0, -1}}, {{-1, 4}}, {{1, -4}}, {{0, 5}}, {{0, 15}}, {{-1, 9}}, {{2, -3}},
		{{math.MaxInt, 0}}, {{math.MinInt, 0}}, {{0, math.MaxInt}}, {{0, math.MinInt}}, {{math.MaxInt, math.MaxInt}}, {{0, 0}, {1, 1}, {2, 2}, {3, 3}, {3, 3}}, slices.Repeat([][2]int{{0, 0}}, 1000000),
	} {
		if ok, e := Fools(x, 1, l); ok || e != api.OK {
			t.Error(len(l), l[0], ok, e)
		}
	}
	if ok, e := Fools([][]int{{1, 0}, {1, 1}}, 1, [][2]int{{0, 0}, {1, 0}}); ok || e != api.OK {
		t.Error(ok, e)
	}
	if ok, e := Fools([][]int{{1, 0}, {1, 1}}, 1, [][2]int{{0, 0}, {1, 1}}); !ok || e != api.OK {
		t.Error(ok, e)
	}
	if l, e := Fool([][]int{{1}}, 0); len(l) != 0 || e != api.OK {
		t.Error(l, e)
	}
}

// P3.10: Cover has at least as many rectangles as Fool has entries.
func TestFoolCover(t *testing.T) {
	manyTables(2000, func(x [][]int) {
		if n := numbersOf(t, x); n.cover[0] < n.fool[0] || n.cover[1] < n.fool[1] {
			t.Error(x, n)
		}
	})
}

// P3.10: tables with 1 just on the diagonal.
func TestDiagonal(t *testing.T) {
	for n := 1; n <= api.MaxTable; n++ {
		var want [][2]int
		for i := range n {
			want = append(want, [2]int{i, i})
		}
		if l, e := Fool(diagonal(n), 1); !slices.Equal(l, want) || e != api.OK {
			t.Error(n, l, e)
		}
		length := []int{0, 0, 2, 3, 3}[n]
		if got, e := Length(diagonal(n)); got != length || e != api.OK {
			t.Error(n, got, e)
		}
	}
}
