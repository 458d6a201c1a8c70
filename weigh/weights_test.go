package weigh

import (
	"math"
	"reflect"
	"slices"
	"testing"

	"planchet/api"
)

// weighedTo is Weighs by trying all ways to lay the weights on the pans.
func weighedTo(w []int) int {
	var sums [1001]bool
	var lay func(i, sum int)
	lay = func(i, sum int) {
		if i == len(w) {
			if sum >= 0 {
				sums[sum] = true
			}
			return
		}
		lay(i+1, sum-w[i])
		lay(i+1, sum)
		lay(i+1, sum+w[i])
	}
	lay(0, 0)
	n := 0
	for sums[n+1] {
		n++
	}
	return n
}

// P1.6, P1.11: what weights weigh.
func TestWeighs(t *testing.T) {
	for _, x := range []struct {
		w    []int
		want int
	}{
		{[]int{1, 3, 9, 27, 81}, 121}, {[]int{1, 3, 9, 27}, 40}, {[]int{1, 2}, 3}, {[]int{1, 3}, 4}, {[]int{1}, 1}, {[]int{2}, 0}, {[]int{200}, 0}, {[]int{1, 200}, 1}, {[]int{199, 200}, 1}, {[]int{2, 3}, 3}, {[]int{196, 197, 198, 199, 200}, 6},
	} {
		if n, e := Weighs(x.w); n != x.want || e != api.OK {
			t.Error(x, n, e)
		}
	}
	for _, w := range [][]int{
		nil, {}, {0}, {-1}, {201}, {1, 1}, {2, 1}, {1, 3, 2}, {1, 2, 3, 4, 5, 6}, {0, 1}, {-1, 1}, {1, 201}, {1, math.MaxInt}, {math.MinInt, 1}, {math.MaxInt}, {1, 2, 3, 4, 4},
	} {
		if n, e := Weighs(w); n != 0 || e != api.ErrArg {
			t.Error(w, n, e)
		}
	}
	w := []int{1, 5, 9}
	if Weighs(w); !slices.Equal(w, []int{1, 5, 9}) {
		t.Error(w)
	}
}

// everyWeights calls f with all weights of so many numbers up to most, the first ones first.
func everyWeights(numbers, most int, f func([]int)) {
	var add func(w []int, least int)
	add = func(w []int, least int) {
		if len(w) == numbers {
			f(w)
			return
		}
		for n := least; n <= most; n++ {
			add(append(w, n), n+1)
		}
	}
	add(nil, 1)
}

// P1.6, P1.11: all weights of few numbers, against all ways to lay them; none weigh more than (3^k - 1) / 2.
func TestWeighsAll(t *testing.T) {
	for numbers, most := range map[int]int{1: 200, 2: 60, 3: 30, 4: 14, 5: 11} {
		everyWeights(numbers, most, func(w []int) {
			n, e := Weighs(w)
			if n != weighedTo(w) || e != api.OK || n > (int(math.Pow(3, float64(numbers)))-1)/2 {
				t.Error(w, n, e)
			}
		})
	}
}

// P1.6: the first fewest weights for each n, against all weights up to 60.
func TestWeights(t *testing.T) {
	want := map[int][]int{}
	for numbers := 1; numbers <= 4; numbers++ {
		fewer := len(want)
		everyWeights(numbers, 60, func(w []int) {
			for n := weighedTo(w); n > fewer; n-- {
				if _, ok := want[n]; !ok && n <= 40 {
					want[n] = slices.Clone(w)
				}
			}
		})
	}
	for n := 1; n <= 40; n++ {
		if w, e := Weights(n); !slices.Equal(w, want[n]) || e != api.OK {
			t.Error(n, w, e, want[n])
		}
	}
	for _, n := range []int{0, -1, 41, math.MaxInt, math.MinInt} {
		if w, e := Weights(n); len(w) != 0 || e != api.ErrArg {
			t.Error(n, w, e)
		}
	}
	for n, w := range map[int][]int{1: {1}, 4: {1, 3}, 5: {1, 2, 3}, 40: {1, 3, 9, 27}} {
		if !slices.Equal(want[n], w) {
			t.Error(n, want[n])
		}
	}
}

// P1.7: the digits of some numbers, and what has none.
func TestPans(t *testing.T) {
	for n, want := range map[int][]int{0: {}, 1: {1}, -1: {-1}, 2: {-1, 1}, 3: {0, 1}, 5: {-1, -1, 1}, -5: {1, 1, -1}, -4: {-1, -1}, 1000: {1, 0, 0, 1, 0, 1, 1}} {
		if l, e := Pans(n); !slices.Equal(l, want) || e != api.OK {
			t.Error(n, l, e)
		}
	}
	for _, n := range []int{1001, -1001, math.MaxInt, math.MinInt} {
		if l, e := Pans(n); len(l) != 0 || e != api.ErrArg {
			t.Error(n, l, e)
		}
	}
}

// P1.7, P1.12: the digits of a number are the only ones with its sum; those of -n have all signs changed.
func TestPansAll(t *testing.T) {
	for n := -1000; n <= 1000; n++ {
		l, e := Pans(n)
		sum, power := 0, 1
		for _, d := range l {
			sum += d * power
			power *= 3
			if d < -1 || d > 1 {
				t.Error(n, l)
			}
		}
		if sum != n || e != api.OK || len(l) > 0 && l[len(l)-1] == 0 {
			t.Error(n, l, e)
		}
		turned, _ := Pans(-n)
		for i := range turned {
			turned[i] = -turned[i]
		}
		if !reflect.DeepEqual(l, turned) {
			t.Error(n, l, turned)
		}
	}
	had := map[int]bool{}
	for k := 1; k <= 7; k++ {
		everyPlan(1, k, func(plan [][]int) {
			l := plan[0]
			if l[k-1] == 0 {
				return
			}
			n := 0
			for i := k - 1; i >= 0; i-- {
				n = 3*n + l[i]
			}
			if got, _ := Pans(n); had[n] || n >= -1000 && n <= 1000 && !slices.Equal(got, l) {
				t.Error(n, l, got)
			}
			had[n] = true
		})
	}
}
