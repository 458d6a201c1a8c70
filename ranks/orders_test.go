package ranks

import (
	"math"
	"slices"
	"testing"

	"planchet/api"
)

// turnedBy counts the pairs that an order goes against, one by one.
func turnedBy(t, order []int) int {
	n := 0
	for i := range order {
		for j := range i {
			if won(t, order[i], order[j]) {
				n++
			}
		}
	}
	return n
}

// P2.4: all orders, against the pairs one by one; Order is the first one that goes against the fewest.
func TestOrders(t *testing.T) {
	manyTournaments(10, func(x []int) {
		var best []int
		fewest := 100
		everyRow(len(x), len(x), func(order []int) bool {
			want := turnedBy(x, order)
			if got, e := Against(x, order); got != want || e != api.OK {
				t.Error(x, order, got, e, want)
			}
			if want < fewest {
				best, fewest = slices.Clone(order), want
			}
			return true
		})
		if got, e := Order(x); !slices.Equal(got, best) || e != api.OK {
			t.Error(x, got, e, best)
		}
	})
}

// P2.4: what are no orders.
func TestAgainstBad(t *testing.T) {
	for _, order := range [][]int{
		nil, {}, {0}, {0, 1}, {0, 1, 2, 3}, {0, 1, 1}, {0, 0, 0}, {0, 1, 3}, {1, 2, 3}, {-1, 0, 1}, {0, 1, -1}, {0, 1, math.MaxInt}, {math.MinInt, 1, 2}, {0, 1, 64}, {0, 1, 2, 2}, make([]int, 100),
	} {
		for _, x := range [][]int{{2, 4, 1}, {6, 4, 0}} {
			if n, e := Against(x, order); n != 0 || e != api.ErrArg {
				t.Error(x, order, n, e)
			}
		}
	}
	if n, e := Against([]int{6, 4, 0}, []int{2, 1, 0}); n != 3 || e != api.OK {
		t.Error(n, e)
	}
}

// hasCycle reports whether t has three players that make a cycle.
func hasCycle(t []int) bool {
	for a := range t {
		for b := range t {
			for c := range t {
				if won(t, a, b) && won(t, b, c) && won(t, c, a) {
					return true
				}
			}
		}
	}
	return false
}

// againstPairs returns the pairs that an order goes against.
func againstPairs(t, order []int) [][2]int {
	var pairs [][2]int
	for i := range order {
		for j := range i {
			if won(t, order[i], order[j]) {
				pairs = append(pairs, [2]int{min(order[i], order[j]), max(order[i], order[j])})
			}
		}
	}
	return pairs
}

// P2.12: at least as many pairs as Pack has cycles; turning them leaves no cycle; each player beats the next one.
func TestOrderPromises(t *testing.T) {
	manyTournaments(300, func(x []int) {
		order, e := Order(x)
		against, f := Against(x, order)
		pack, g := Pack(x)
		if e != api.OK || f != api.OK || g != api.OK || against < len(pack) {
			t.Error(x, order, e, against, f, pack, g)
		}
		turned, e := Turn(x, againstPairs(x, order))
		if e != api.OK || hasCycle(turned) {
			t.Error(x, order, turned, e)
		}
		if !isRow(x, order) {
			t.Error(x, order)
		}
		if cycles, _ := Cycles(x); (against == 0) != (len(cycles) == 0) {
			t.Error(x, order, against, cycles)
		}
	})
}

// P2.12: turning fewer pairs than Order goes against leaves a cycle.
func TestFewerTurned(t *testing.T) {
	for n := 1; n <= 5; n++ {
		pairs := allPairs(n)
		everyTournament(n, func(x []int) {
			order, _ := Order(x)
			against, _ := Against(x, order)
			for set := range 1 << len(pairs) {
				if size(set) >= against {
					continue
				}
				var some [][2]int
				for i, pair := range pairs {
					if set&(1<<i) != 0 {
						some = append(some, pair)
					}
				}
				if turned, e := Turn(x, some); e != api.OK || !hasCycle(turned) {
					t.Error(x, order, some, turned, e)
				}
			}
		})
	}
}

// chain reports whether i beats .. beats j.
func chain(t []int, i, j int) bool {
	seen := []int{i}
	for k := 0; k < len(seen); k++ {
		for p := range t {
			if won(t, seen[k], p) && p == j {
				return true
			}
			if won(t, seen[k], p) && !slices.Contains(seen, p) {
				seen = append(seen, p)
			}
		}
	}
	return false
}

// P2.3: all parts, each player in one: two players are in one if and only if there are chains both ways; earlier parts beat later ones.
func TestParts(t *testing.T) {
	manyTournaments(200, func(x []int) {
		parts, e := Parts(x)
		if e != api.OK {
			t.Error(x, e)
		}
		in := make([]int, len(x))
		all := 0
		for k, part := range parts {
			if part <= 0 || part>>len(x) != 0 || part&all != 0 {
				t.Fatal(x, parts)
			}
			all |= part
			for p := range x {
				if part&(1<<p) != 0 {
					in[p] = k
				}
			}
		}
		if all != 1<<len(x)-1 {
			t.Fatal(x, parts)
		}
		for i := range x {
			for j := range x {
				if i != j && (in[i] == in[j]) != (chain(x, i, j) && chain(x, j, i)) {
					t.Error("together", x, parts, i, j)
				}
				if in[i] < in[j] && !won(x, i, j) {
					t.Error("order", x, parts, i, j)
				}
			}
		}
	})
}

// P2.13: in Order the players of one part stand together, the parts in their order.
func TestPartsInOrder(t *testing.T) {
	manyTournaments(300, func(x []int) {
		order, _ := Order(x)
		parts, _ := Parts(x)
		for _, part := range parts {
			for range size(part) {
				if part&(1<<order[0]) == 0 {
					t.Fatal(x, order, parts)
				}
				order = order[1:]
			}
		}
	})
}
