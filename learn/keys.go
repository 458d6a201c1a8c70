package learn

import (
	"math/bits"
	"slices"

	"planchet/api"
)

// Key returns the least key of a concept.
func Key(p int, class []int, concept int) (int, api.Errno) {
	c, ok := read(p, class)
	if !ok || !slices.Contains(class, concept) {
		return 0, api.ErrArg
	}
	return c.key(concept), api.OK
}

// Teach returns the greatest size of a key.
func Teach(p int, class []int) (int, api.Errno) {
	c, ok := read(p, class)
	if !ok {
		return 0, api.ErrArg
	}
	most := 0
	for _, concept := range class {
		most = max(most, points(c.key(concept)))
	}
	return most, api.OK
}

// Ask returns how many questions settle everything.
func Ask(p int, class []int) (int, api.Errno) {
	c, ok := read(p, class)
	if !ok {
		return 0, api.ErrArg
	}
	return c.questions(), api.OK
}

// Peel returns the peeling number.
func Peel(p int, class []int) (int, api.Errno) {
	c, ok := read(p, class)
	if !ok {
		return 0, api.ErrArg
	}
	k := 0
	for !c.peels(k) {
		k++
	}
	return k, api.OK
}

// points returns the number of points of a set.
func points(set int) int { return bits.OnesCount(uint(set)) }

// key takes the sets in their order, so of those with the fewest points the least one stays. All points together are a key.
func (c concepts) key(concept int) int {
	all := 1<<c.points - 1
	best := all
	for set := range all {
		if points(set) < points(best) && c.isKey(set, concept) {
			best = set
		}
	}
	return best
}

func (c concepts) isKey(set, concept int) bool {
	for x := range c.points {
		if set>>x&1 == 1 {
			c = c.part(x, concept>>x&1)
		}
	}
	return c.size() == 1
}

// questions returns the least length of a plan of questions, for at least one concept. To ask all points is one plan.
func (c concepts) questions() int {
	if c.size() == 1 {
		return 0
	}
	least := c.points
	for x := range c.points {
		if c.differ(x) {
			least = min(least, 1+max(c.part(x, 0).questions(), c.part(x, 1).questions()))
		}
	}
	return least
}

// peels reports whether all can be taken away by keys of at most k points.
func (c concepts) peels(k int) bool {
	for c.set != 0 {
		rest := c
		for _, concept := range c.list() {
			if points(c.key(concept)) <= k {
				rest.set &^= 1 << concept
			}
		}
		if rest == c {
			return false
		}
		c = rest
	}
	return true
}
