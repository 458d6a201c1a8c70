package bets

import (
	"cmp"
	"math"
	"math/big"
	"slices"
	"testing"

	"planchet/api"
)

// allOdds calls f with all odds of n horses.
func allOdds(n int, f func(odds []int)) {
	odds := make([]int, n)
	var fill func(at int)
	fill = func(at int) {
		if at == n {
			f(slices.Clone(odds))
			return
		}
		for o := range 12 {
			odds[at] = o + 1
			fill(at + 1)
		}
	}
	fill(0)
}

// races calls f with one of so many races of n horses.
func races(n, step int, f func(chances, odds []int)) {
	at := 0
	for _, chances := range grid(n, 12) {
		allOdds(n, func(odds []int) {
			if at%step == 0 {
				f(chances, odds)
			}
			at++
		})
	}
}

// growing takes the words of P9.5 one by one.
func growing(chances, odds []int) []*big.Rat {
	var order []int
	for i := range chances {
		order = append(order, i)
	}
	slices.SortFunc(order, func(i, j int) int {
		return cmp.Or(cmp.Compare(chances[j]*odds[j], chances[i]*odds[i]), cmp.Compare(i, j))
	})
	reserve := func(k int) *big.Rat {
		chance, part := rat(1, 1), rat(1, 1)
		for _, i := range order[:k] {
			chance.Sub(chance, rat(chances[i], 12))
			part.Sub(part, rat(1, odds[i]))
		}
		return chance.Quo(chance, part)
	}
	k := 0
	for k < len(order) && rat(chances[order[k]]*odds[order[k]], 12).Cmp(reserve(k)) > 0 {
		k++
	}
	stakes := make([]*big.Rat, len(chances))
	for at, i := range order {
		stakes[i] = new(big.Rat)
		if at < k {
			stakes[i].Sub(rat(chances[i], 12), new(big.Rat).Mul(reserve(k), rat(1, odds[i])))
		}
	}
	return stakes
}

// worth takes the words of P9.6 one by one.
func worth(odds []int, stakes []api.Frac) []*big.Rat {
	var l []*big.Rat
	for i := range stakes {
		x := rat(1, 1)
		for _, f := range stakes {
			x.Sub(x, value(f))
		}
		l = append(l, x.Add(x, new(big.Rat).Mul(value(stakes[i]), rat(odds[i], 1))))
	}
	return l
}

func same(l []api.Frac, want []*big.Rat) bool {
	return slices.EqualFunc(l, want, func(f api.Frac, x *big.Rat) bool { return isFrac(f) && value(f).Cmp(x) == 0 })
}

// P9.5, P9.6: what are no races.
func TestWrongRaces(t *testing.T) {
	none := []api.Frac{{Num: 0, Den: 1}, {Num: 0, Den: 1}}
	for _, x := range [][2][]int{
		{nil, nil}, {{12}, {2}}, {{12, 0, 0, 0, 0, 0}, {1, 1, 1, 1, 1, 1}},
		{{6, 6}, {2}}, {{6, 6}, {2, 2, 2}}, {{6, 6}, nil}, {nil, {2, 2}},
		{{6, 5}, {2, 2}}, {{6, 7}, {2, 2}}, {{13, -1}, {2, 2}}, {{-1, 13}, {2, 2}}, {{0, 0}, {2, 2}},
		{{math.MinInt, math.MinInt + 12}, {2, 2}}, {{math.MaxInt, math.MinInt}, {2, 2}}, {{math.MaxInt, -math.MaxInt + 12}, {2, 2}},
		{{6, 6}, {0, 2}}, {{6, 6}, {2, 13}}, {{6, 6}, {2, -2}}, {{6, 6}, {math.MinInt, math.MaxInt}},
	} {
		if l, e := Grow(x[0], x[1]); l != nil || e != api.ErrArg {
			t.Error(x, l, e)
		}
		if l, e := Worth(x[0], x[1], none); l != nil || e != api.ErrArg {
			t.Error(x, l, e)
		}
	}
}

// P9.5: the example, equal horses, and ends: nothing worth a stake, everything staked, a horse that is sure to win, or to lose.
func TestGrowExamples(t *testing.T) {
	zero, one := api.Frac{Num: 0, Den: 1}, api.Frac{Num: 1, Den: 1}
	for _, x := range []struct {
		chances, odds []int
		want          []api.Frac
	}{
		{[]int{6, 6}, []int{3, 1}, []api.Frac{{Num: 1, Den: 4}, zero}},
		{[]int{6, 6}, []int{1, 3}, []api.Frac{zero, {Num: 1, Den: 4}}},
		{[]int{6, 6}, []int{2, 2}, []api.Frac{zero, zero}},
		{[]int{6, 6}, []int{3, 3}, []api.Frac{{Num: 1, Den: 2}, {Num: 1, Den: 2}}},
		{[]int{12, 0}, []int{2, 12}, []api.Frac{one, zero}},
		{[]int{12, 0}, []int{1, 12}, []api.Frac{zero, zero}},
		{[]int{1, 1, 10}, []int{1, 1, 1}, []api.Frac{zero, zero, zero}},
		{[]int{0, 0, 0, 0, 12}, []int{12, 12, 12, 12, 12}, []api.Frac{zero, zero, zero, zero, one}},
		// 4/3 is above 1, and above the reserve of the first one, 8/9; that of both is 2/3, and the third one's 1/3 is not above it
		{[]int{4, 4, 4}, []int{4, 4, 1}, []api.Frac{{Num: 1, Den: 6}, {Num: 1, Den: 6}, zero}},
		// the third one's 2/3 is just the reserve of the others
		{[]int{4, 4, 4}, []int{4, 4, 2}, []api.Frac{{Num: 1, Den: 6}, {Num: 1, Den: 6}, zero}},
	} {
		if l, e := Grow(x.chances, x.odds); !slices.Equal(l, x.want) || e != api.OK {
			t.Error(x, l, e)
		}
	}
}

// P9.5, P9.6, P9.11: the staking of the chapter, what it is worth, and that no change makes it better.
func TestGrow(t *testing.T) {
	check := func(chances, odds []int) {
		given, also := slices.Clone(chances), slices.Clone(odds)
		stakes, e := Grow(chances, odds)
		if !same(stakes, growing(chances, odds)) || e != api.OK {
			t.Fatal(chances, odds, stakes, e)
		}
		after, e := Worth(chances, odds, stakes)
		if !same(after, worth(odds, stakes)) || e != api.OK || !slices.Equal(chances, given) || !slices.Equal(odds, also) {
			t.Fatal(chances, odds, stakes, after, e)
		}
		sum := new(big.Rat)
		for i, f := range stakes {
			sum.Add(sum, value(f))
			times := chances[i] * odds[i] * after[i].Den
			if f.Num < 0 || f.Num > 0 && times != 12*after[i].Num || after[i].Num > 0 && times > 12*after[i].Num {
				t.Fatal(chances, odds, stakes, after)
			}
		}
		if sum.Cmp(rat(1, 1)) > 0 {
			t.Fatal(chances, odds, stakes)
		}
	}
	races(2, 1, check)
	races(3, 29, check)
	races(4, 2003, check)
	r := uint64(9)
	all := grid(5, 12)
	for range 5000 {
		odds := make([]int, 5)
		for i := range odds {
			odds[i] = 1 + next(&r, 12)
		}
		check(all[next(&r, len(all))], odds)
	}
}

// growth returns what the logarithms of a staking's worth average to, as a power: the product of all with the chances, in 12ths, as exponents.
func growth(chances, odds []int, stakes []api.Frac) *big.Rat {
	x := rat(1, 1)
	for i, w := range worth(odds, stakes) {
		for range chances[i] {
			x.Mul(x, w)
		}
	}
	return x
}

// P9.5: no other staking in 12ths grows better.
func TestGrowsBest(t *testing.T) {
	check := func(chances, odds []int) {
		stakes, _ := Grow(chances, odds)
		best := growth(chances, odds, stakes)
		if best.Sign() <= 0 {
			t.Fatal(chances, odds, stakes)
		}
		for _, parts := range grid(len(odds)+1, 12) {
			var other []api.Frac
			for _, p := range parts[1:] {
				other = append(other, lowestOf(p, 12))
			}
			if growth(chances, odds, other).Cmp(best) > 0 {
				t.Fatal(chances, odds, stakes, other)
			}
		}
	}
	races(2, 7, check)
	races(3, 1501, check)
}

// P9.6: what is kept is added; and Dens may have a common multiple of just 10^10.
func TestWorthExamples(t *testing.T) {
	const most = 10_000_000_000
	zero, one := api.Frac{Num: 0, Den: 1}, api.Frac{Num: 1, Den: 1}
	for _, x := range []struct{ stakes, want []api.Frac }{
		{[]api.Frac{{Num: 1, Den: 4}, zero}, []api.Frac{{Num: 15, Den: 4}, {Num: 3, Den: 4}}},
		{[]api.Frac{zero, zero}, []api.Frac{one, one}},
		{[]api.Frac{one, zero}, []api.Frac{{Num: 12, Den: 1}, zero}},
		{[]api.Frac{{Num: 1, Den: most}, {Num: most - 1, Den: most}}, []api.Frac{{Num: 3, Den: most / 4}, {Num: most - 1, Den: most}}},
		{[]api.Frac{{Num: 1, Den: 1024}, {Num: 1, Den: 9765625}}, []api.Frac{{Num: most + 11*9765625 - 1024, Den: most}, {Num: 1023, Den: 1024}}},
	} {
		if l, e := Worth([]int{6, 6}, []int{12, 1}, x.stakes); e != api.OK || !slices.Equal(l, x.want) {
			t.Error(x, l, e)
		}
	}
}

// P9.6: Worth is what the chapter says, for any staking in parts of 10.
func TestWorth(t *testing.T) {
	r := uint64(10)
	for range 3000 {
		n := 2 + next(&r, 4)
		left := 10
		chances, odds, stakes := make([]int, n), make([]int, n), make([]api.Frac, n)
		chances[next(&r, n)] = 12
		for i := range n {
			part := next(&r, left+1)
			left -= part
			stakes[i] = lowestOf(part, 10)
			odds[i] = 1 + next(&r, 12)
		}
		given := slices.Clone(stakes)
		if l, e := Worth(chances, odds, stakes); !same(l, worth(odds, stakes)) || e != api.OK || !slices.Equal(stakes, given) {
			t.Fatal(odds, stakes, l, e)
		}
	}
}

// P9.6: what are no stakings.
func TestWrongStakes(t *testing.T) {
	const most = 10_000_000_000
	zero := api.Frac{Num: 0, Den: 1}
	for _, stakes := range [][]api.Frac{
		nil, {zero}, {zero, zero, zero},
		{{Num: 1, Den: 2}, {Num: 2, Den: 3}}, {{Num: 1, Den: 1}, {Num: 1, Den: most}}, {{Num: 1, Den: 1}, {Num: 1, Den: 1}},
		{{Num: 2, Den: 1}, zero}, {{Num: -1, Den: 2}, {Num: 1, Den: 2}}, {{Num: -2, Den: 3}, zero}, {{Num: -1, Den: -2}, zero},
		{{Num: 2, Den: 4}, zero}, {{Num: 0, Den: 2}, zero}, {{}, zero}, {zero, {Num: 1}},
		{{Num: 1, Den: most + 1}, zero}, {{Num: 1, Den: 99991}, {Num: 1, Den: 100019}}, {{Num: 1, Den: math.MaxInt}, {Num: 1, Den: math.MaxInt - 1}},
		{{Num: math.MinInt, Den: 1}, {Num: math.MaxInt, Den: 1}}, {{Num: 1, Den: math.MinInt}, zero},
	} {
		if l, e := Worth([]int{6, 6}, []int{3, 1}, stakes); l != nil || e != api.ErrArg {
			t.Error(stakes, l, e)
		}
	}
}
