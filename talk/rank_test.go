package talk

import (
	"reflect"
	"slices"
	"testing"

	"planchet/api"
)

// determinant is that of the values of x in a block, by its first row.
func determinant(x [][]int, b block) int {
	if len(b.rows) == 0 {
		return 1
	}
	sum, sign := 0, 1
	for i, c := range b.columns {
		rest := block{b.rows[1:], slices.Delete(slices.Clone(b.columns), i, i+1)}
		sum += sign * x[b.rows[0]][c] * determinant(x, rest)
		sign = -sign
	}
	return sum
}

// rankBy finds the greatest number of rows and columns whose determinant is not 0, and not even if modulo 2.
func rankBy(x [][]int, odd bool) int {
	most := 0
	for rows := range 1 << len(x) {
		for columns := range 1 << len(x[0]) {
			b := block{listed(rows), listed(columns)}
			if len(b.rows) != len(b.columns) {
				continue
			}
			if d := determinant(x, b); d != 0 && (!odd || d%2 != 0) {
				most = max(most, len(b.rows))
			}
		}
	}
	return most
}

// P3.6: both ranks, by determinants.
func TestRank(t *testing.T) {
	manyTables(300, func(x [][]int) {
		if n, e := Rank(x); n != rankBy(x, false) || e != api.OK {
			t.Error(x, n, e)
		}
		if n, e := Rank2(x); n != rankBy(x, true) || e != api.OK {
			t.Error(x, n, e)
		}
	})
}

// P3.6: determinants of 2 and of 3, which are not 0.
func TestRankApart(t *testing.T) {
	for _, x := range []struct {
		t           [][]int
		rank, rank2 int
	}{
		{[][]int{{1, 1, 0}, {1, 0, 1}, {0, 1, 1}}, 3, 2},
		{turned(diagonal(4)), 4, 4},
		{turned(diagonal(3)), 3, 2},
		{[][]int{{0, 0}, {0, 0}}, 0, 0},
		{[][]int{{1, 1, 1, 1}}, 1, 1},
		{[][]int{{0, 1}, {1, 0}}, 2, 2},
		{[][]int{{0, 0, 1, 0}, {0, 0, 1, 0}, {0, 0, 0, 1}}, 2, 2},
	} {
		n, e := Rank(x.t)
		n2, f := Rank2(x.t)
		if n != x.rank || n2 != x.rank2 || e != api.OK || f != api.OK {
			t.Error(x, n, e, n2, f)
		}
	}
}

// P3.11: Rank is at least Rank2; turning over and exchanging rows change neither, turning all values changes Rank by at most one.
func TestRankPromises(t *testing.T) {
	manyTables(2000, func(x [][]int) {
		n, n2 := numbersOf(t, x).rank, numbersOf(t, x).rank2
		if n < n2 {
			t.Error(x, n, n2)
		}
		o := numbersOf(t, over(x))
		if o.rank != n || o.rank2 != n2 {
			t.Error(x, n, n2, o)
		}
		if other := numbersOf(t, turned(x)).rank; other < n-1 || other > n+1 {
			t.Error(x, n, other)
		}
		for i := range x {
			for j := range i {
				y := slices.Clone(x)
				y[i], y[j] = y[j], y[i]
				if m, _ := Rank(y); m != n {
					t.Error(x, y, n, m)
				}
			}
		}
	})
}

// P3.7: the least n with 2^n at least the number of different rows.
func TestOnce(t *testing.T) {
	for _, x := range []struct {
		t    [][]int
		want int
	}{
		{[][]int{{0}}, 0}, {[][]int{{1}, {1}, {1}, {1}}, 0}, {[][]int{{0}, {1}}, 1}, {[][]int{{0}, {1}, {0}, {1}}, 1}, {[][]int{{0, 1, 0, 1}}, 0},
		{diagonal(3), 2}, {diagonal(4), 2}, {[][]int{{0, 0}, {0, 1}, {1, 0}, {1, 1}}, 2}, {[][]int{{0, 0}, {0, 1}, {1, 0}, {0, 0}}, 2}, {[][]int{{0, 0}, {0, 0}, {1, 0}}, 1},
	} {
		if n, e := Once(x.t); n != x.want || e != api.OK {
			t.Error(x, n, e)
		}
	}
	manyTables(500, func(x [][]int) {
		rows := map[[4]int]bool{}
		for _, r := range x {
			var key [4]int
			copy(key[:], r)
			rows[key] = true
		}
		n, e := Once(x)
		if e != api.OK || 1<<n < len(rows) || n > 0 && 1<<(n-1) >= len(rows) {
			t.Error(x, n, e)
		}
	})
}

// numbers are all those of a table; covers and fooling sets by their value.
type numbers struct {
	length, part, rank, rank2, once int
	cover, fool                     [2]int
}

func numbersOf(t *testing.T, x [][]int) numbers {
	var n numbers
	for i, f := range []func([][]int) (int, api.Errno){Length, Part, Rank, Rank2, Once} {
		got, e := f(x)
		if e != api.OK {
			t.Error(x, i, e)
		}
		*[]*int{&n.length, &n.part, &n.rank, &n.rank2, &n.once}[i] = got
	}
	for v := range 2 {
		cover, e := Cover(x, v)
		fool, f := Fool(x, v)
		if e != api.OK || f != api.OK {
			t.Error(x, v, e, f)
		}
		n.cover[v], n.fool[v] = len(cover), len(fool)
	}
	return n
}

// P3.12: a table that comes by leaving out a row or a column needs no more.
func TestParts(t *testing.T) {
	manyTables(1000, func(x [][]int) {
		n := numbersOf(t, x)
		for _, y := range [][][]int{x, over(x)} {
			for i := range y {
				if len(y) == 1 {
					continue
				}
				part := slices.Delete(slices.Clone(y), i, i+1)
				if m := numbersOf(t, part); m.length > n.length || m.part > n.part || m.rank > n.rank || m.fool[0] > n.fool[0] || m.fool[1] > n.fool[1] {
					t.Error(x, part, n, m)
				}
			}
		}
	})
}

// P3.13: a row that is there twice can be left out.
func TestRepeating(t *testing.T) {
	manyTables(1000, func(x [][]int) {
		n := numbersOf(t, x)
		for i := range x {
			if len(x) < api.MaxTable {
				if m := numbersOf(t, append(slices.Clone(x), x[i])); m != n {
					t.Error(x, i, n, m)
				}
			}
			for j := range i {
				if !reflect.DeepEqual(x[i], x[j]) {
					continue
				}
				if m := numbersOf(t, slices.Delete(slices.Clone(x), i, i+1)); m != n {
					t.Error(x, i, j, n, m)
				}
			}
		}
	})
}
