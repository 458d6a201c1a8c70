package talk

import (
	"math"
	"slices"
	"testing"

	"planchet/api"
)

// covered reports whether the blocks have each entry of x with v.
func covered(x [][]int, v int, l []block) bool {
	for r := range x {
		for c := range x[r] {
			if x[r][c] == v && !slices.ContainsFunc(l, func(b block) bool { return b.in(r, c) }) {
				return false
			}
		}
	}
	return true
}

// coverable reports whether n of the blocks, with those taken, have each entry of x with v.
func coverable(x [][]int, v int, all, taken []block, n int) bool {
	if n == 0 {
		return covered(x, v, taken)
	}
	for i, b := range all {
		if coverable(x, v, all[i+1:], append(slices.Clip(taken), b), n-1) {
			return true
		}
	}
	return false
}

// P3.3: Cover is a cover, and no fewer clear rectangles are.
func TestCover(t *testing.T) {
	manyTables(20, func(x [][]int) {
		for v := range 2 {
			l, e := Cover(x, v)
			pairs, all := blocks(x, v)
			var taken []block
			for _, r := range l {
				if !slices.Contains(pairs, r) {
					t.Error(x, v, l, r)
				}
				taken = append(taken, block{listed(r[0]), listed(r[1])})
			}
			if e != api.OK || !covered(x, v, taken) {
				t.Error(x, v, l, e)
			}
			if len(l) > 0 && coverable(x, v, all, nil, len(l)-1) {
				t.Error("fewer", x, v, l)
			}
			if ok, e := Covers(x, v, l); !ok || e != api.OK {
				t.Error(x, v, l, ok, e)
			}
		}
	})
}

// P3.3: a value that does not occur has the cover of no rectangles.
func TestCoverNone(t *testing.T) {
	for v := range 2 {
		x := [][]int{{1 - v, 1 - v}}
		if l, e := Cover(x, v); len(l) != 0 || e != api.OK {
			t.Error(v, l, e)
		}
		if l, e := Cover(x, 1-v); !slices.Equal(l, [][2]int{{1, 3}}) || e != api.OK {
			t.Error(v, l, e)
		}
		for _, l := range [][][2]int{nil, {}} {
			if ok, e := Covers(x, v, l); !ok || e != api.OK {
				t.Error(v, l, ok, e)
			}
			if ok, e := Covers(x, 1-v, l); ok || e != api.OK {
				t.Error(v, l, ok, e)
			}
		}
	}
}

// P3.3: all slices of up to 3 pairs, against the entries one by one.
func TestCovers(t *testing.T) {
	everyTable(2, 2, func(x [][]int) {
		for v := range 2 {
			pairs, _ := blocks(x, v)
			var add func(l [][2]int, taken []block)
			add = func(l [][2]int, taken []block) {
				want := covered(x, v, taken)
				for _, r := range l {
					want = want && slices.Contains(pairs, r)
				}
				if ok, e := Covers(x, v, l); ok != want || e != api.OK {
					t.Error(x, v, l, ok, e, want)
				}
				if len(l) == 3 {
					return
				}
				for n := range 25 {
					r := [2]int{n / 5, n % 5}
					add(append(slices.Clip(l), r), append(slices.Clip(taken), block{listed(r[0]), listed(r[1])}))
				}
			}
			add(nil, nil)
		}
	})
}

// P3.3: pairs that are no rectangles of the table are in no cover, whatever else is; rectangles may be there twice.
func TestCoversBad(t *testing.T) {
	x := [][]int{{1, 1, 1}, {1, 1, 1}}
	for _, n := range []int{-1, 0, 4, 5, 7, 8, 15, 16, 1 << 32, math.MaxInt, math.MinInt} {
		for _, r := range [][2]int{{n, 1}, {1, n}, {n, n}} {
			want := r[0] == 1 && (n == 4 || n == 5 || n == 7)
			for _, l := range [][][2]int{{{3, 7}, r}, {r, {3, 7}}} {
				if ok, e := Covers(x, 1, l); ok != want || e != api.OK {
					t.Error(l, ok, e)
				}
			}
		}
	}
	for _, l := range [][][2]int{{{3, 7}}, {{3, 7}, {3, 7}}, {{1, 7}, {2, 7}}, {{3, 3}, {3, 6}}, slices.Repeat([][2]int{{3, 7}}, 100000)} {
		if ok, e := Covers(x, 1, l); !ok || e != api.OK {
			t.Error(len(l), ok, e)
		}
	}
	for _, l := range [][][2]int{nil, {{1, 7}}, {{3, 3}}, {{3, 5}, {1, 7}}} {
		if ok, e := Covers(x, 1, l); ok || e != api.OK {
			t.Error(l, ok, e)
		}
	}
	if ok, e := Covers(x, 0, [][2]int{{3, 7}}); ok || e != api.OK {
		t.Error(ok, e)
	}
}

// fewestParts finds how many more clear blocks part the entries of x that are not in those taken, if that is less than most; else most.
func fewestParts(x [][]int, all, taken []block, most int) int {
	has := func(r, c int) bool { return slices.ContainsFunc(taken, func(b block) bool { return b.in(r, c) }) }
	meets := func(b block) bool {
		for _, r := range b.rows {
			for _, c := range b.columns {
				if has(r, c) {
					return true
				}
			}
		}
		return false
	}
	for r := range x {
		for c := range x[r] {
			if has(r, c) {
				continue
			}
			for _, b := range all {
				if most > 1 && b.in(r, c) && !meets(b) {
					most = min(most, 1+fewestParts(x, all, append(slices.Clip(taken), b), most-1))
				}
			}
			return most
		}
	}
	return 0
}

// P3.4: the fewest rectangles of a parting, of both values together.
func TestPart(t *testing.T) {
	manyTables(3, func(x [][]int) {
		_, zeros := blocks(x, 0)
		_, ones := blocks(x, 1)
		want := fewestParts(x, append(zeros, ones...), nil, 2*api.MaxTable+1)
		if n, e := Part(x); n != want || e != api.OK {
			t.Error(x, n, e, want)
		}
	})
}

// P3.3, P3.4: entries that two rectangles cover together may need three apart.
func TestApart(t *testing.T) {
	x := [][]int{{1, 1, 0}, {1, 1, 1}, {0, 1, 1}}
	if l, e := Cover(x, 1); len(l) != 2 || e != api.OK {
		t.Error(l, e)
	}
	if n, e := Part(x); n != 5 || e != api.OK {
		t.Error(n, e)
	}
}

// P3.9: 2 to the power of Length is at least Part, which is at least the number of rectangles of both Covers, and at least Rank.
func TestRectangles(t *testing.T) {
	manyTables(2000, func(x [][]int) {
		n := numbersOf(t, x)
		if 1<<n.length < n.part || n.part < n.cover[0]+n.cover[1] || n.part < n.rank {
			t.Error(x, n)
		}
	})
}
