package learn

import (
	"math"
	"slices"
	"testing"

	"planchet/api"
)

// tells reports whether no other concept of the class has the same part of a set of points.
func tells(class []int, concept, set int) bool {
	for _, other := range class {
		same := true
		for _, x := range members(set) {
			same = same && has(other, x) == has(concept, x)
		}
		if other != concept && same {
			return false
		}
	}
	return true
}

// firstKey returns of the keys with the fewest points the least one.
func firstKey(p int, class []int, concept int) int {
	for n := range p + 1 {
		for set := range 1 << p {
			if len(members(set)) == n && tells(class, concept, set) {
				return set
			}
		}
	}
	return -1
}

// P4.5: all concepts of many classes; and what is none of them.
func TestKey(t *testing.T) {
	manyClasses(6, func(p int, class []int) {
		most := 0
		for concept := range 1 << p {
			k, e := Key(p, class, concept)
			if !slices.Contains(class, concept) {
				if k != 0 || e != api.ErrArg {
					t.Error(p, class, concept, k, e)
				}
				continue
			}
			want := firstKey(p, class, concept)
			if k != want || e != api.OK {
				t.Error(p, class, concept, k, e, want)
			}
			most = max(most, len(members(want)))
		}
		if n, e := Teach(p, class); n != most || e != api.OK {
			t.Error(p, class, n, e, most)
		}
		for _, concept := range []int{-1, 1 << p, 1 << 32, math.MaxInt, math.MinInt} {
			if k, e := Key(p, class, concept); k != 0 || e != api.ErrArg {
				t.Error(p, class, concept, k, e)
			}
		}
	})
}

// P4.5: a set of few points comes before a lesser one of more.
func TestKeyFew(t *testing.T) {
	for _, x := range []struct {
		class        []int
		concept, key int
	}{
		{[]int{0, 1, 2}, 0, 3}, {[]int{0, 1, 2}, 1, 1}, {[]int{0, 1, 2}, 2, 2}, {[]int{0, 1, 2, 7}, 7, 4}, {[]int{0, 3}, 0, 1}, {[]int{0, 1, 2, 4}, 0, 7}, {[]int{0, 3, 5, 6}, 6, 3},
	} {
		if k, e := Key(3, x.class, x.concept); k != x.key || e != api.OK {
			t.Error(x, k, e)
		}
	}
}

// settles reports whether n questions leave one concept, whatever is heard.
func settles(p int, left []int, n int) bool {
	if len(left) <= 1 {
		return true
	}
	if n == 0 {
		return false
	}
	for x := range p {
		if settles(p, agreeing(left, x, 0), n-1) && settles(p, agreeing(left, x, 1), n-1) {
			return true
		}
	}
	return false
}

// P4.6: as many questions settle everything, and no fewer.
func TestAsk(t *testing.T) {
	manyClasses(4, func(p int, class []int) {
		n, e := Ask(p, class)
		if e != api.OK || n < 0 || !settles(p, class, n) || n > 0 && settles(p, class, n-1) {
			t.Error(p, class, n, e)
		}
	})
}

// peeled reports whether keys of at most k points take all concepts away.
func peeled(p int, left []int, k int) bool {
	for len(left) > 0 {
		var rest []int
		for _, concept := range left {
			if len(members(firstKey(p, left, concept))) > k {
				rest = append(rest, concept)
			}
		}
		if len(rest) == len(left) {
			return false
		}
		left = rest
	}
	return true
}

// P4.7: the least k for which all can be taken away.
func TestPeel(t *testing.T) {
	manyClasses(3, func(p int, class []int) {
		k, e := Peel(p, class)
		if e != api.OK || k < 0 || !peeled(p, class, k) || k > 0 && peeled(p, class, k-1) {
			t.Error(p, class, k, e)
		}
	})
}

// P4.7: the peeling number is the greatest size, over all parts of the class, of the least key in the part: a part without lesser keys is never taken away, and one by one is as good as together.
func TestPeelParts(t *testing.T) {
	easiest := map[int]int{} // the least size of a key, by the set of the concepts
	everyClass(3, func(class []int) {
		set, least := 0, 3
		for _, concept := range class {
			set |= 1 << concept
			least = min(least, len(members(firstKey(3, class, concept))))
		}
		easiest[set] = least
	})
	everyClass(3, func(class []int) {
		set, want := 0, 0
		for _, concept := range class {
			set |= 1 << concept
		}
		for part := set; part > 0; part = (part - 1) & set {
			want = max(want, easiest[part])
		}
		if k, e := Peel(3, class); k != want || e != api.OK {
			t.Error(class, k, e, want)
		}
	})
}

// P4.11: Teach is at most p and less than the number of concepts, Peel at most Teach, Ask at least Teach, and 2 to the power of Ask at least the number of concepts.
func TestTeaching(t *testing.T) {
	manyClasses(20, func(p int, class []int) {
		n := numbersOf(t, p, class)
		if n.teach > p || n.teach > len(class)-1 || n.peel > n.teach || n.ask < n.teach || 1<<n.ask < len(class) {
			t.Error(p, class, n)
		}
	})
}

// P4.5 to P4.7: all single points and nothing: nothing has the only great key, but once the others are gone it has none to be told from.
func TestSinglePoints(t *testing.T) {
	for p := 2; p <= api.MaxPoints; p++ {
		class := ruled(p)[1]
		if k, e := Key(p, class, 0); k != 1<<p-1 || e != api.OK {
			t.Error(p, k, e)
		}
		if n := numbersOf(t, p, class); n != (numbers{dim: 1, teach: p, ask: p, peel: 1, careful: 1, halving: n.halving}) {
			t.Error(p, n)
		}
	}
}
