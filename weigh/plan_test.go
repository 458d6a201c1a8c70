package weigh

import (
	"math"
	"reflect"
	"testing"

	"planchet/api"
)

// badPlans are no plans.
func badPlans() [][][]int {
	long := make([][]int, 14)
	for i := range long {
		long[i] = []int{0}
	}
	return [][][]int{
		nil, {}, {nil}, {{}}, {{}, {}}, {nil, {1}}, {{1}, nil}, {{1}, {}}, {{1, 0}, {-1}}, {{1}, {-1, 0}}, {{1, 0}, {0, 1}, {-1, -1, 0}},
		{{0, 0, 0, 0, 0}}, {{2}}, {{-2}, {1}}, {{1}, {-2}}, {{1, 0}, {-1, math.MaxInt}}, {{math.MinInt, 0}, {math.MinInt, 0}}, long,
	}
}

// P1.4, P1.5: what is no plan.
func TestBadPlans(t *testing.T) {
	for _, plan := range badPlans() {
		if ok, e := Right(plan); ok || e != api.ErrArg {
			t.Error("Right", plan, ok, e)
		}
		for _, results := range [][]int{nil, {0}, {0, 0}, {0, 0, 0, 0, 0}} {
			if c, s, e := Read(plan, results); c != 0 || s != 0 || e != api.ErrArg {
				t.Error("Read", plan, results, c, s, e)
			}
		}
	}
}

// weighed returns the result of each weighing by what lies on the pans, the coin being heavier (1) or lighter (-1).
func weighed(plan [][]int, coin, sign int) [4]int {
	var results [4]int
	for w := range plan[0] {
		pans := map[int]int{}
		for i, places := range plan {
			pans[places[w]] += 100
			if i == coin {
				pans[places[w]] += sign
			}
		}
		switch {
		case pans[-1] > pans[1]:
			results[w] = -1
		case pans[-1] < pans[1]:
			results[w] = 1
		}
	}
	return results
}

// tells reports whether the pans have the same numbers of coins, and every false coin of a kind, and none, has results of its own.
func tells(plan [][]int) bool {
	none := weighed(plan, -1, 0)
	if none != [4]int{} {
		return false
	}
	had := map[[4]int]bool{none: true}
	for i := range plan {
		for _, sign := range []int{-1, 1} {
			r := weighed(plan, i, sign)
			if had[r] {
				return false
			}
			had[r] = true
		}
	}
	return true
}

// everyPlan calls f with each plan of so many coins and weighings.
func everyPlan(coins, k int, f func([][]int)) {
	plan := make([][]int, coins)
	for i := range plan {
		plan[i] = make([]int, k)
	}
	var set func(n int)
	set = func(n int) {
		if n == coins*k {
			f(plan)
			return
		}
		for v := -1; v <= 1; v++ {
			plan[n/k][n%k] = v
			set(n + 1)
		}
	}
	set(0)
}

// P1.4, P1.5, P1.10: all small plans, against the coins on the pans; no right one has more than (3^k - 3) / 2 coins.
func TestRight(t *testing.T) {
	for _, size := range [][2]int{{1, 1}, {2, 1}, {3, 1}, {4, 1}, {1, 2}, {2, 2}, {3, 2}, {4, 2}, {5, 2}, {1, 3}, {2, 3}, {3, 3}, {1, 4}, {2, 4}} {
		coins, k, count := size[0], size[1], 0
		everyPlan(coins, k, func(plan [][]int) {
			ok, e := Right(plan)
			if ok != tells(plan) || e != api.OK {
				t.Error(plan, ok, e)
			}
			if ok {
				count++
			}
		})
		if most := (int(math.Pow(3, float64(k))) - 3) / 2; coins > most && count > 0 {
			t.Error(coins, k, count)
		}
		if coins == 3 && k >= 2 && count == 0 {
			t.Error(coins, k)
		}
	}
}

func TestRightLong(t *testing.T) {
	plan, _ := Plan(12, 3)
	for i := range plan {
		plan[i] = append(plan[i], 0)
	}
	plan[0][3], plan[1][3] = 1, -1
	if ok, e := Right(plan); !ok || e != api.OK {
		t.Error(plan, ok, e)
	}
	same := make([][]int, 13)
	for i := range same {
		same[i] = []int{0, 0, 0, 0}
	}
	if ok, e := Right(same); ok || e != api.OK {
		t.Error(ok, e)
	}
}

// P1.4, P1.10: plans are right, for 3 to (3^k - 3) / 2 coins.
func TestPlan(t *testing.T) {
	most := map[int]int{1: 0, 2: 3, 3: 12}
	for k := 1; k <= 3; k++ {
		for coins := 1; coins <= 13; coins++ {
			plan, e := Plan(coins, k)
			if coins < 3 || coins > most[k] {
				if len(plan) != 0 || e != api.ErrNone {
					t.Error(coins, k, plan, e)
				}
				continue
			}
			if e != api.OK || len(plan) != coins || len(plan[0]) != k || !tells(plan) {
				t.Error(coins, k, plan, e)
				continue
			}
			if ok, f := Right(plan); !ok || f != api.OK {
				t.Error(plan, ok, f)
			}
			checkRead(t, plan)
		}
	}
	for _, x := range [][2]int{{0, 3}, {14, 3}, {3, 0}, {3, 4}, {-1, 3}, {3, -1}, {math.MaxInt, 2}, {3, math.MaxInt}, {math.MinInt, math.MinInt}, {1, 0}, {14, 1}} {
		if plan, e := Plan(x[0], x[1]); len(plan) != 0 || e != api.ErrArg {
			t.Error(x, plan, e)
		}
	}
}

// Rule 4: no two slices of a plan share memory, nor do two plans.
func TestPlanMemory(t *testing.T) {
	a, _ := Plan(12, 3)
	b, _ := Plan(12, 3)
	if !reflect.DeepEqual(a, b) {
		t.Error(a, b)
	}
	for i := range a {
		_ = append(a[i], 7)
		for j := range a[i] {
			a[i][j] = 9
		}
		for _, later := range a[i+1:] {
			if later[0] > 1 {
				t.Error(a)
			}
		}
	}
	if c, _ := Plan(12, 3); !reflect.DeepEqual(b, c) {
		t.Error(b, c)
	}
}

// checkRead reads all results that there are.
func checkRead(t *testing.T, plan [][]int) {
	want := map[[4]int][2]int{{}: {-1, 0}}
	for i := range plan {
		want[weighed(plan, i, 1)] = [2]int{i, 1}
		want[weighed(plan, i, -1)] = [2]int{i, -1}
	}
	everyPlan(1, len(plan[0]), func(l [][]int) {
		var key [4]int
		copy(key[:], l[0])
		w, ok := want[key]
		c, s, e := Read(plan, l[0])
		if ok && ([2]int{c, s} != w || e != api.OK) || !ok && (c != 0 || s != 0 || e != api.ErrNone) {
			t.Error(plan, l[0], c, s, e, w)
		}
	})
}

// P1.5, P1.10: all results of all small plans that are right; ErrNone for those that are not.
func TestRead(t *testing.T) {
	for _, size := range [][2]int{{2, 2}, {3, 2}, {3, 3}} {
		everyPlan(size[0], size[1], func(plan [][]int) {
			if tells(plan) {
				checkRead(t, plan)
			} else if c, s, e := Read(plan, make([]int, size[1])); c != 0 || s != 0 || e != api.ErrNone {
				t.Error(plan, c, s, e)
			}
		})
	}
	plan := [][]int{{1, 0}, {-1, 1}, {0, -1}}
	for _, x := range []struct {
		results    []int
		coin, sign int
		e          api.Errno
	}{
		{[]int{1, 0}, 0, 1, api.OK}, {[]int{-1, 0}, 0, -1, api.OK}, {[]int{1, -1}, 1, -1, api.OK}, {[]int{0, 0}, -1, 0, api.OK}, {[]int{1, 1}, 0, 0, api.ErrNone},
		{nil, 0, 0, api.ErrArg}, {[]int{}, 0, 0, api.ErrArg}, {[]int{1}, 0, 0, api.ErrArg}, {[]int{1, 0, 0}, 0, 0, api.ErrArg}, {[]int{2, 0}, 0, 0, api.ErrArg}, {[]int{0, -2}, 0, 0, api.ErrArg}, {[]int{math.MaxInt, math.MinInt}, 0, 0, api.ErrArg},
	} {
		if c, s, e := Read(plan, x.results); c != x.coin || s != x.sign || e != x.e {
			t.Error(x, c, s, e)
		}
	}
}

// P1.5: the errors of results come before that of a plan that is not right; arguments are not changed.
func TestReadErrors(t *testing.T) {
	plan := [][]int{{1, 0}, {-1, 0}}
	for _, results := range [][]int{nil, {1}, {1, 2}, {0, 0, 0}} {
		if c, s, e := Read(plan, results); c != 0 || s != 0 || e != api.ErrArg {
			t.Error(results, c, s, e)
		}
	}
	if c, s, e := Read(plan, []int{1, 0}); c != 0 || s != 0 || e != api.ErrNone {
		t.Error(c, s, e)
	}
	if !reflect.DeepEqual(plan, [][]int{{1, 0}, {-1, 0}}) {
		t.Error(plan)
	}
}
