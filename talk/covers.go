package talk

import "planchet/api"

// Cover returns a smallest cover.
func Cover(t [][]int, v int) ([][2]int, api.Errno) {
	x, ok := read(t)
	if !ok || !isValue(v) {
		return nil, api.ErrArg
	}
	return x.fewest(v, false), api.OK
}

// Covers reports whether l is a cover. If its rectangles have together just the entries with v, each of them is clear.
func Covers(t [][]int, v int, l [][2]int) (bool, api.Errno) {
	x, ok := read(t)
	if !ok || !isValue(v) {
		return false, api.ErrArg
	}
	covered := 0
	for _, r := range l {
		if !x.isRectangle(r) {
			return false, api.OK
		}
		covered |= entries(r)
	}
	return covered == x.with[v], api.OK
}

// Part returns how many rectangles a parting needs.
func Part(t [][]int) (int, api.Errno) {
	x, ok := read(t)
	if !ok {
		return 0, api.ErrArg
	}
	return len(x.fewest(0, true)) + len(x.fewest(1, true)), api.OK
}

// isRectangle relies on the numbers of all rows and of all columns being the greatest sets of them.
func (t *table) isRectangle(r [2]int) bool {
	return r[row] >= 1 && r[row] <= t.all[row] && r[column] >= 1 && r[column] <= t.all[column]
}

// fewest returns the fewest clear rectangles that have all entries with v; apart: each of them in one only. There are never more than rows, so the search ends.
func (t *table) fewest(v int, apart bool) [][2]int {
	var choices [][2]int
	for r := range t.rectangles() {
		if t.isClear(r, v) {
			choices = append(choices, r)
		}
	}
	for n := 0; ; n++ {
		if l, ok := chosen(choices, t.with[v], n, apart); ok {
			return l
		}
	}
}

// chosen returns at most n of the choices that have all entries of rest; apart: each of them in one only, and no entries but these.
func chosen(choices [][2]int, rest, n int, apart bool) ([][2]int, bool) {
	if rest == 0 || n == 0 {
		return nil, rest == 0
	}
	first := rest & -rest
	for _, r := range choices {
		set := entries(r)
		if set&first == 0 || apart && set&^rest != 0 {
			continue
		}
		if l, ok := chosen(choices, rest&^set, n-1, apart); ok {
			return append(l, r), true
		}
	}
	return nil, false
}
