package evade

import (
	"math"
	"slices"
	"testing"

	"planchet/api"
)

// isEarly takes the words of the chapter one by one, for the elements that are not gone.
func isEarly(f, rest []int) bool {
	if len(f) == 0 || len(f) == 1<<len(rest) {
		return true
	}
	if len(rest) < 2 {
		return false
	}
	for at, x := range rest {
		others := slices.Delete(slices.Clone(rest), at, at+1)
		if isEarly(leftOf(f, x), others) && isEarly(linkOf(f, x), others) {
			return true
		}
	}
	return false
}

// agree returns how many of the sets of n elements that have all of in and none of out there are, and how many of these are in f.
func agree(n int, f *[64]bool, out, in int) (all, with int) {
	for s := range 1 << n {
		if isPart(in, s) && s&out == 0 {
			all++
			if f[s] {
				with++
			}
		}
	}
	return all, with
}

func table(f []int) *[64]bool {
	var t [64]bool
	for _, s := range f {
		t[s] = true
	}
	return &t
}

// least returns the least number of elements to ask, from all ways to ask. It knows nothing of links.
func least(n int, f []int) int {
	var known [64][64]int
	t := table(f)
	var search func(out, in int) int
	search = func(out, in int) int {
		if known[out][in] > 0 {
			return known[out][in] - 1
		}
		best := 0
		if all, with := agree(n, t, out, in); with > 0 && with < all {
			best = n
			for x := range n {
				if bit := 1 << x; (out|in)&bit == 0 {
					best = min(best, 1+max(search(out|bit, in), search(out, in|bit)))
				}
			}
		}
		known[out][in] = best + 1
		return best
	}
	return search(0, 0)
}

// P8.2, P8.8: Early, by the chapter's words, and by Ask; what is early and not empty has Sum 0.
func TestEarly(t *testing.T) {
	yes, no := 0, 0
	some(10007, func(n int, f []int) {
		early, e := Early(n, f)
		if early != isEarly(f, []int{0, 1, 2, 3, 4, 5}[:n]) || e != api.OK {
			t.Fatal(n, f, early, e)
		}
		k, _ := Ask(n, f)
		if early != (k < n) {
			t.Fatal(n, f, early, k)
		}
		if sum, _ := Sum(n, f); early && sum != 0 {
			t.Fatal(n, f, sum)
		}
		if early {
			yes++
		} else {
			no++
		}
	})
	if yes < 1000 || no < 1000 {
		t.Error(yes, no)
	}
}

// P8.3, P8.13: Ask is the least number of elements, from all ways to ask; it is at most n, and 0 just for no sets and for all.
func TestAsk(t *testing.T) {
	some(10007, func(n int, f []int) {
		k, e := Ask(n, f)
		if k != least(n, f) || e != api.OK {
			t.Fatal(n, f, k, e)
		}
		if k > n || (k == 0) != (len(f) == 0 || len(f) == 1<<n) {
			t.Fatal(n, f, k)
		}
	})
}

// judged is what Check must say, found by asking for each set alone.
func judged(n int, f []int, p []Node) (int, bool) {
	if len(p) > 70 {
		return 0, false
	}
	for at, node := range p {
		if node.Ask < 0 || node.Ask >= n {
			return 0, false
		}
		for _, to := range []int{node.Out, node.In} {
			if to != -1 && (to <= at || to >= len(p)) {
				return 0, false
			}
		}
	}
	longest := 0
	for s := range 1 << n {
		k, ok := asked(n, table(f), p, s)
		if !ok {
			return 0, false
		}
		longest = max(longest, k)
	}
	return longest, true
}

// asked returns how many elements are asked for the set s, and whether they are different, and the way ends as soon as all is settled.
func asked(n int, f *[64]bool, p []Node, s int) (int, bool) {
	at, out, in := 0, 0, 0
	if len(p) == 0 {
		at = -1
	}
	for count := 0; ; count++ {
		all, with := agree(n, f, out, in)
		if settled := with == 0 || with == all; settled || at == -1 {
			return count, settled && at == -1
		}
		bit := 1 << p[at].Ask
		if (out|in)&bit != 0 {
			return 0, false
		}
		if s&bit != 0 {
			in |= bit
			at = p[at].In
		} else {
			out |= bit
			at = p[at].Out
		}
	}
}

// P8.2, P8.8: Plan is a plan with the least length, empty if all is settled, and Check accepts it with Ask.
func TestPlan(t *testing.T) {
	some(10007, func(n int, f []int) {
		p, e := Plan(n, f)
		k, _ := Ask(n, f)
		if length, ok := judged(n, f, p); length != k || !ok || e != api.OK {
			t.Fatal(n, f, p, length, ok, k, e)
		}
		if length, ok, e := Check(n, f, p); length != k || !ok || e != api.OK {
			t.Fatal(n, f, p, length, ok, k, e)
		}
		if (len(p) == 0) != (len(f) == 0 || len(f) == 1<<n) {
			t.Fatal(n, f, p)
		}
	})
}

// P8.8: if it is early, Sum is 0 for all links, and for all that is left, in the plan.
func TestPlanSums(t *testing.T) {
	some(10007, func(n int, f []int) {
		if early, _ := Early(n, f); !early {
			return
		}
		p, _ := Plan(n, f)
		var follow func(f []int, at int)
		follow = func(f []int, at int) {
			if sum, e := Sum(n, f); sum != 0 || e != api.OK {
				t.Fatal(n, f, p, at, sum, e)
			}
			if at == -1 {
				return
			}
			link, _ := Link(n, f, p[at].Ask)
			left, _ := Without(n, f, p[at].Ask)
			follow(link, p[at].In)
			follow(left, p[at].Out)
		}
		if len(p) > 0 {
			follow(f, 0)
		}
	})
}

// somePlan appends to p some plan, and returns its first index. No way leads to some of its Nodes, and those that follow may stand in any order.
func somePlan(n int, f *[64]bool, out, in int, p []Node, r *uint64) ([]Node, int) {
	if all, with := agree(n, f, out, in); with == 0 || with == all {
		return p, -1
	}
	x := next(r, n)
	for (out|in)&(1<<x) != 0 {
		x = next(r, n)
	}
	at := len(p)
	p = append(p, Node{Ask: x})
	if next(r, 16) == 0 {
		p = append(p, Node{Ask: n - 1, Out: -1, In: -1})
	}
	to, first := [2]int{}, next(r, 2)
	for _, reply := range []int{first, 1 - first} {
		if reply == 0 {
			p, to[reply] = somePlan(n, f, out|1<<x, in, p, r)
		} else {
			p, to[reply] = somePlan(n, f, out, in|1<<x, p, r)
		}
	}
	p[at].Out, p[at].In = to[0], to[1]
	return p, at
}

// P8.2: Check accepts any plan, also a long one, and refuses what is none, by what becomes of each set.
func TestCheck(t *testing.T) {
	r := uint64(3)
	accepted, refused := 0, 0
	some(10007, func(n int, f []int) {
		p, _ := somePlan(n, table(f), 0, 0, nil, &r)
		for range 4 {
			q := slices.Clone(p)
			for range next(&r, 3) {
				if len(q) == 0 {
					q = append(q, Node{0, -1, -1})
				}
				node := &q[next(&r, len(q))]
				*[]*int{&node.Ask, &node.Out, &node.In}[next(&r, 3)] = next(&r, len(q)+3) - 2
			}
			want, ok := judged(n, f, q)
			if ok {
				accepted++
			} else {
				refused++
			}
			if k, right, e := Check(n, f, q); k != want || right != ok || e != api.OK {
				t.Fatal(n, f, q, k, right, e, want, ok)
			}
		}
	})
	if accepted < 8000 || refused < 8000 {
		t.Error(accepted, refused)
	}
}

// P8.2: what is a plan, and what is none.
func TestCheckPlans(t *testing.T) {
	two, path := []int{0, 1, 2}, []int{0, 1, 2, 3, 4, 6}
	for _, x := range []struct {
		n    int
		f    []int
		p    []Node
		want int
		ok   bool
	}{
		{1, nil, nil, 0, true},
		{1, []int{0, 1}, []Node{}, 0, true},
		{6, whole(6), nil, 0, true},
		{1, nil, []Node{{0, -1, -1}}, 0, false},
		{1, []int{0, 1}, []Node{{0, -1, -1}}, 0, false},
		{1, []int{0}, nil, 0, false},
		{1, []int{0}, []Node{{0, -1, -1}}, 1, true},
		{2, []int{0, 1}, []Node{{1, -1, -1}}, 1, true},
		{2, []int{0, 1}, []Node{{0, -1, -1}}, 0, false},
		{2, []int{0, 1}, []Node{{0, 1, 1}, {1, -1, -1}}, 2, true},
		{2, []int{0, 1}, []Node{{0, 1, 2}, {1, -1, -1}, {1, -1, -1}}, 2, true},
		{2, []int{0, 1}, []Node{{0, 1, 1}, {0, -1, -1}}, 0, false},
		{2, []int{0, 1}, []Node{{1, 1, -1}, {0, -1, -1}}, 0, false},
		{2, []int{0, 1}, []Node{{1, -1, 1}, {0, -1, -1}}, 0, false},
		{2, []int{0, 1}, []Node{{1, -1, -1}, {0, -1, -1}}, 1, true},
		{2, []int{0, 1}, []Node{{1, -1, -1}, {0, 2, -1}, {0, -1, -1}}, 1, true},
		{2, []int{0, 1}, []Node{{1, -1, -1}, {0, 1, -1}}, 0, false},
		{2, []int{0, 1}, []Node{{1, -1, -1}, {0, -1, 0}}, 0, false},
		{2, []int{0, 1}, []Node{{1, -1, -1}, {0, -1, 2}}, 0, false},
		{2, []int{0, 1}, []Node{{1, -1, -1}, {2, -1, -1}}, 0, false},
		{2, []int{0, 1}, []Node{{1, -1, -1}, {-1, -1, -1}}, 0, false},
		{2, []int{0, 1}, []Node{{1, -1, -1}, {0, -1, -2}}, 0, false},
		{2, two, []Node{{0, -1, 1}, {1, -1, -1}}, 2, true},
		{2, two, []Node{{0, 1, -1}, {1, -1, -1}}, 0, false},
		{2, two, []Node{{0, 1, 1}, {1, -1, -1}}, 0, false},
		{2, two, []Node{{0, 0, 1}, {1, -1, -1}}, 0, false},
		{2, two, []Node{{0, -1, 1}, {0, -1, -1}}, 0, false},
		{3, path, []Node{{0, 1, 1}, {2, -1, -1}}, 0, false},
		{3, path, []Node{{0, -1, 1}, {2, -1, -1}}, 2, true},
		{3, path, []Node{{2, -1, 1}, {0, -1, -1}}, 2, true},
		{3, path, []Node{{1, 1, 3}, {0, -1, 2}, {2, -1, -1}, {2, -1, 4}, {0, -1, -1}}, 3, true},
	} {
		if k, ok, e := Check(x.n, x.f, x.p); k != x.want || ok != x.ok || e != api.OK {
			t.Error(x, k, ok, e)
		}
	}
	for _, n := range []int{-2, -1, 2, 3, 64, math.MaxInt, math.MinInt, 1 << 32} {
		for _, node := range []Node{{n, -1, -1}, {1, n, -1}, {1, -1, n}, {1, n, n}} {
			if node == (Node{1, -1, -1}) {
				continue
			}
			for _, p := range [][]Node{{node}, {{1, -1, -1}, node}} {
				if k, ok, e := Check(2, []int{0, 1}, p); k != 0 || ok || e != api.OK {
					t.Error(p, k, ok, e)
				}
			}
		}
	}
}

// P8.2: a plan has at most 70 Nodes, also those to which no way leads.
func TestCheckMany(t *testing.T) {
	for _, f := range [][]int{{0, 1, 2, 4, 8, 16, 32}, {0}} {
		p, _ := Plan(6, f)
		for len(p) < 70 {
			p = append(p, Node{5, -1, -1})
		}
		if k, ok, e := Check(6, f, p); k != 6 || !ok || e != api.OK {
			t.Error(k, ok, e)
		}
		p = append(p, Node{5, -1, -1})
		if k, ok, e := Check(6, f, p); k != 0 || ok || e != api.OK {
			t.Error(k, ok, e)
		}
	}
	if k, ok, e := Check(2, []int{0, 1}, slices.Repeat([]Node{{1, -1, -1}}, 1000000)); k != 0 || ok || e != api.OK {
		t.Error(k, ok, e)
	}
}
