package mint

import (
	"slices"

	"planchet/api"
)

// different reports whether no copy is there twice.
func different(copies []*Copy) bool {
	for i, c := range copies {
		if slices.Contains(copies[:i], c) {
			return false
		}
	}
	return true
}

// reached returns how many copies are in reach, and the greatest of their
// marks.
func reached(copies []*Copy) (n, greatest int) {
	for _, c := range copies {
		if mark, e := c.Mark(); e == api.OK {
			n++
			greatest = max(greatest, mark)
		}
	}
	return n, greatest
}

// most reports whether n copies are more than half of them.
func most(n int, copies []*Copy) bool { return 2*n > len(copies) }

// books returns the lines of the books of the copies in reach, and the state
// after them. Where a mark is less than the one before it, an older mint put
// the line on few copies, and the mint that wrote the books did not find it.
func books(copies []*Copy) ([]string, state) {
	var lines []string
	now, mark := beginning(), 0
	for i := range maxLines {
		x, ok := newest(copies, i)
		if !ok || x.mark < mark {
			break
		}
		next, _, e := now.after(x.line)
		if e != api.OK {
			break
		}
		lines = append(lines, x.line)
		now, mark = next, x.mark
	}
	return lines, now
}

// newest returns the entry i with the greatest mark on the copies in reach,
// of equal marks that of the first copy, and whether there is one.
func newest(copies []*Copy, i int) (entry, bool) {
	var best entry
	there := false
	for _, c := range copies {
		mark, line, e := c.Get(i)
		if e == api.OK && (!there || mark > best.mark) {
			best, there = entry{mark, line}, true
		}
	}
	return best, there
}
