package talk

import (
	"math"
	"reflect"
	"slices"
	"testing"

	"planchet/api"
)

// someTable returns the table whose values are the bits of n, row by row.
func someTable(rows, columns, n int) [][]int {
	t := make([][]int, rows)
	for r := range t {
		t[r] = make([]int, columns)
		for c := range t[r] {
			t[r][c] = n & 1
			n >>= 1
		}
	}
	return t
}

// everyTable calls f with each table of so many rows and columns.
func everyTable(rows, columns int, f func([][]int)) {
	for n := range 1 << (rows * columns) {
		f(someTable(rows, columns, n))
	}
}

// smallTables calls f with all tables of at most 9 entries.
func smallTables(f func([][]int)) {
	for rows := 1; rows <= api.MaxTable; rows++ {
		for columns := 1; columns <= api.MaxTable && rows*columns <= 9; columns++ {
			everyTable(rows, columns, f)
		}
	}
}

// manyTables calls f with the small tables, with so many of each of the greater sizes, and with some of the greatest size that need much.
func manyTables(count int, f func([][]int)) {
	smallTables(f)
	r := uint64(1)
	for range count {
		for _, size := range [][2]int{{3, 4}, {4, 3}, {4, 4}} {
			r = r*6364136223846793005 + 1442695040888963407
			f(someTable(size[0], size[1], int(r>>40)))
		}
	}
	for _, n := range []int{0x8421, 0x7bde, 0x8cef, 0xc639, 0xa5c3, 0xffff, 0} {
		f(someTable(4, 4, n))
	}
}

// diagonal is the table of n rows and columns with 1 just on the diagonal.
func diagonal(n int) [][]int {
	t := someTable(n, n, 0)
	for i := range t {
		t[i][i] = 1
	}
	return t
}

// over returns the table with rows for columns.
func over(t [][]int) [][]int {
	o := make([][]int, len(t[0]))
	for c := range o {
		for r := range t {
			o[c] = append(o[c], t[r][c])
		}
	}
	return o
}

// turned returns the table with all values turned.
func turned(t [][]int) [][]int {
	o := cloned(t)
	for r := range o {
		for c := range o[r] {
			o[r][c] = 1 - o[r][c]
		}
	}
	return o
}

func cloned(t [][]int) [][]int {
	o := slices.Clone(t)
	for r := range o {
		o[r] = slices.Clone(o[r])
	}
	return o
}

// block is a rectangle as the indices of its rows and of its columns.
type block struct{ rows, columns []int }

func whole(t [][]int) block { return block{listed(1<<len(t) - 1), listed(1<<len(t[0]) - 1)} }

// listed returns what is in a set.
func listed(set int) []int {
	var l []int
	for i := range 62 {
		if set&(1<<i) != 0 {
			l = append(l, i)
		}
	}
	return l
}

// same reports whether all values in a block are v.
func (b block) same(t [][]int, v int) bool {
	for _, r := range b.rows {
		for _, c := range b.columns {
			if t[r][c] != v {
				return false
			}
		}
	}
	return true
}

func (b block) in(r, c int) bool { return slices.Contains(b.rows, r) && slices.Contains(b.columns, c) }

// blocks returns all rectangles of t with just the value v, as pairs of sets and as blocks.
func blocks(t [][]int, v int) ([][2]int, []block) {
	var pairs [][2]int
	var all []block
	for rows := 1; rows < 1<<len(t); rows++ {
		for columns := 1; columns < 1<<len(t[0]); columns++ {
			if b := (block{listed(rows), listed(columns)}); b.same(t, v) {
				pairs = append(pairs, [2]int{rows, columns})
				all = append(all, b)
			}
		}
	}
	return pairs, all
}

// badTables are no tables.
var badTables = [][][]int{
	nil, {}, {nil}, {{}}, {nil, nil}, {{}, {}}, make([][]int, 5), {{0}, nil}, {nil, {0}}, {{0}, {}}, {{}, {0}},
	{{0, 0}, {0}}, {{0}, {0, 0}}, {{0, 1}, {1, 0}, {1}}, {{0, 1, 1}, {1, 0}, {1, 1, 1}}, {{0}, {0}, {0}, {0}, {0}}, {{0, 0, 0, 0, 0}}, {{0, 0, 0, 0}, {0, 0, 0, 0, 0}},
	{{2}}, {{-1}}, {{math.MaxInt}}, {{math.MinInt}}, {{0, 2}}, {{0, 1}, {1, -1}}, {{0, 1}, {1, math.MaxInt}}, {{0, 1}, {math.MinInt, 0}}, {{1, 1, 1, 1}, {1, 1, 1, 1}, {1, 1, 1, 1}, {1, 1, 1, 256}},
	make([][]int, 100000), {make([]int, 100000)},
}

// A table that is none comes first, whatever else is asked.
func TestBadTables(t *testing.T) {
	for i, bad := range badTables {
		for _, p := range [][]Node{nil, {{}}, {{Leaf: true}}, {{Leaf: true, Value: 1}}} {
			if n, ok, e := Check(bad, p); n != 0 || ok || e != api.ErrArg {
				t.Error("Check", i, p, n, ok, e)
			}
		}
		if p, e := Plan(bad); len(p) != 0 || e != api.ErrArg {
			t.Error("Plan", i, p, e)
		}
		for name, f := range map[string]func([][]int) (int, api.Errno){"Length": Length, "Part": Part, "Rank": Rank, "Rank2": Rank2, "Once": Once} {
			if n, e := f(bad); n != 0 || e != api.ErrArg {
				t.Error(name, i, n, e)
			}
		}
		for _, v := range []int{-1, 0, 1, 2} {
			checkBad(t, bad, v)
		}
	}
}

// checkBad checks that the functions with a value return ErrArg for x and v.
func checkBad(t *testing.T, x [][]int, v int) {
	if l, e := Cover(x, v); len(l) != 0 || e != api.ErrArg {
		t.Error("Cover", len(x), v, l, e)
	}
	if l, e := Fool(x, v); len(l) != 0 || e != api.ErrArg {
		t.Error("Fool", len(x), v, l, e)
	}
	for _, l := range [][][2]int{nil, {}, {{0, 0}}, {{1, 1}}, {{-1, 16}}} {
		if ok, e := Covers(x, v, l); ok || e != api.ErrArg {
			t.Error("Covers", len(x), v, l, ok, e)
		}
		if ok, e := Fools(x, v, l); ok || e != api.ErrArg {
			t.Error("Fools", len(x), v, l, ok, e)
		}
	}
}

func TestBadValues(t *testing.T) {
	for _, x := range [][][]int{{{0}}, {{1}}, {{0, 1}, {1, 0}}, someTable(4, 4, 0x1234)} {
		for _, v := range []int{-1, 2, 3, 16, math.MaxInt, math.MinInt} {
			checkBad(t, x, v)
		}
	}
}

// The Examples.
func TestExamples(t *testing.T) {
	x := [][]int{{1, 0}, {0, 1}}
	if n, e := Length(x); n != 2 || e != api.OK {
		t.Error(n, e)
	}
	if l, e := Fool(x, 1); !slices.Equal(l, [][2]int{{0, 0}, {1, 1}}) || e != api.OK {
		t.Error(l, e)
	}
	if n, e := Rank(x); n != 2 || e != api.OK {
		t.Error(n, e)
	}
	if n, e := Part(x); n != 4 || e != api.OK {
		t.Error(n, e)
	}
	if l, e := Cover(x, 1); len(l) != 2 || e != api.OK {
		t.Error(l, e)
	}
	x = [][]int{{0, 0}, {0, 1}}
	if n, e := Length(x); n != 2 || e != api.OK {
		t.Error(n, e)
	}
	if n, e := Part(x); n != 3 || e != api.OK {
		t.Error(n, e)
	}
	if n, e := Rank(x); n != 1 || e != api.OK {
		t.Error(n, e)
	}
	if n, e := Length([][]int{{1, 1}}); n != 0 || e != api.OK {
		t.Error(n, e)
	}
}

// No argument is changed, a call has the same results again, and results share no memory.
func TestSameAgain(t *testing.T) {
	x := someTable(4, 4, 0x8cef)
	before := cloned(x)
	p, _ := Plan(x)
	cover, _ := Cover(x, 1)
	fool, _ := Fool(x, 1)
	run, _ := Run(p, 1, 2)
	plan, covers, fools, ran := slices.Clone(p), slices.Clone(cover), slices.Clone(fool), slices.Clone(run)
	if _, ok, _ := Check(x, p); !ok {
		t.Error(p)
	}
	if ok, _ := Covers(x, 1, cover); !ok {
		t.Error(cover)
	}
	if ok, _ := Fools(x, 1, fool); !ok {
		t.Error(fool)
	}
	for _, f := range []func([][]int) (int, api.Errno){Length, Part, Rank, Rank2, Once} {
		f(x)
	}
	if !reflect.DeepEqual(x, before) || !slices.Equal(p, plan) || !slices.Equal(cover, covers) || !slices.Equal(fool, fools) {
		t.Error("changed", x, p, cover, fool)
	}
	run[0]++
	if again, _ := Run(p, 1, 2); !slices.Equal(again, ran) {
		t.Error(again, ran)
	}
	clear(p)
	clear(cover)
	clear(fool)
	if again, _ := Plan(x); !slices.Equal(again, plan) {
		t.Error(again, plan)
	}
	if again, _ := Cover(x, 1); !slices.Equal(again, covers) {
		t.Error(again, covers)
	}
	if again, _ := Fool(x, 1); !slices.Equal(again, fools) {
		t.Error(again, fools)
	}
}
