package weigh

import (
	"math"
	"testing"

	"planchet/api"
)

// everyKnown calls f with each valid Known that has at most so many suspects and Good coins.
func everyKnown(most, good int, f func(Known)) {
	for both := 0; both <= most; both++ {
		for heavy := 0; both+heavy <= most; heavy++ {
			for light := 0; both+heavy+light <= most; light++ {
				for g := 0; g <= good; g++ {
					if both+heavy+light > 0 {
						f(Known{both, heavy, light, g, false})
					}
					f(Known{both, heavy, light, g, true})
				}
			}
		}
	}
}

// badKnowns are no Knowns.
var badKnowns = []Known{
	{}, {Good: 5}, {Both: -1, Heavy: 3}, {Heavy: -1, Both: 3}, {Light: -1, Both: 3}, {Good: -1, Both: 3},
	{Both: 14}, {Heavy: 14}, {Light: 14}, {Both: 1, Good: 14}, {Both: 13, Heavy: 1}, {Both: 5, Heavy: 5, Light: 4},
	{None: true, Both: -1}, {None: true, Good: 14}, {None: true, Heavy: -1, Light: 1},
	{Both: math.MaxInt, None: true}, {Both: math.MinInt, None: true}, {Both: math.MaxInt, Heavy: math.MaxInt, Light: 5},
	{Heavy: math.MaxInt, Light: math.MinInt, Both: 2}, {Both: 1, Good: math.MaxInt}, {Both: 1, Good: math.MinInt},
	{Both: math.MinInt, Heavy: math.MinInt, Light: 3},
}

func TestBadKnowns(t *testing.T) {
	l := Load{Both: [2]int{1, 1}}
	for _, k := range badKnowns {
		if got, e := After(k, l, 0); got != (Known{}) || e != api.ErrArg {
			t.Error("After", k, got, e)
		}
		if n, e := Need(k); n != 0 || e != api.ErrArg {
			t.Error("Need", k, n, e)
		}
		if got, e := Best(k); got != (Load{}) || e != api.ErrArg {
			t.Error("Best", k, got, e)
		}
		if n, e := Bound(k); n != 0 || e != api.ErrArg {
			t.Error("Bound", k, n, e)
		}
	}
}

// P1.1: ordinary weighings.
func TestAfter(t *testing.T) {
	k := Known{Both: 4, Heavy: 3, Light: 2, Good: 1, None: true}
	l := Load{Both: [2]int{2, 1}, Heavy: [2]int{1, 1}, Light: [2]int{0, 1}, Good: [2]int{0, 0}}
	for result, want := range map[int]Known{
		-1: {Heavy: 3, Light: 2, Good: 5},
		0:  {Both: 1, Heavy: 1, Light: 1, Good: 7, None: true},
		1:  {Heavy: 2, Light: 2, Good: 6},
	} {
		if got, e := After(k, l, result); got != want || e != api.OK {
			t.Error(result, got, e)
		}
	}
	k.None = false
	if got, e := After(k, l, 0); got != (Known{Both: 1, Heavy: 1, Light: 1, Good: 7}) || e != api.OK {
		t.Error(got, e)
	}
}

// P1.1: no more than 13 Good coins are counted.
func TestAfterGood(t *testing.T) {
	for _, x := range []struct {
		k      Known
		l      Load
		result int
		want   Known
	}{
		{Known{Both: 13, Good: 13}, Load{Both: [2]int{1, 0}, Good: [2]int{0, 1}}, -1, Known{Heavy: 1, Good: 13}},
		{Known{Both: 3, Good: 12}, Load{Both: [2]int{1, 0}, Good: [2]int{0, 1}}, 0, Known{Both: 2, Good: 13}},
		{Known{Both: 4, Good: 12}, Load{Both: [2]int{1, 1}}, 0, Known{Both: 2, Good: 13}},
		{Known{Both: 13}, Load{Both: [2]int{1, 1}}, 1, Known{Heavy: 1, Light: 1, Good: 11}},
		{Known{Both: 1, Good: 13}, Load{Good: [2]int{6, 6}}, 0, Known{Both: 1, Good: 13}},
	} {
		if got, e := After(x.k, x.l, x.result); got != x.want || e != api.OK {
			t.Error(x, got, e)
		}
	}
}

// P1.1: results that can't come.
func TestAfterNone(t *testing.T) {
	for _, x := range []struct {
		k      Known
		l      Load
		result int
	}{
		{Known{Heavy: 2}, Load{Heavy: [2]int{1, 1}}, 0},
		{Known{Both: 2}, Load{Both: [2]int{1, 1}}, 0},
		{Known{Heavy: 1, Good: 1}, Load{Heavy: [2]int{1, 0}, Good: [2]int{0, 1}}, 1},
		{Known{Light: 1, Good: 1}, Load{Light: [2]int{1, 0}, Good: [2]int{0, 1}}, -1},
		{Known{Both: 3, Good: 2}, Load{Good: [2]int{1, 1}}, -1},
		{Known{Both: 3, Good: 2}, Load{Good: [2]int{1, 1}}, 1},
		{Known{Good: 2, None: true}, Load{Good: [2]int{1, 1}}, 1},
	} {
		if got, e := After(x.k, x.l, x.result); got != (Known{}) || e != api.ErrNone {
			t.Error(x, got, e)
		}
	}
}

// P1.1: what is no Load, or no result. The error comes before that of a result that can't come.
func TestAfterBad(t *testing.T) {
	k := Known{Both: 3, Heavy: 3, Light: 3, Good: 3}
	for _, l := range []Load{
		{}, {Both: [2]int{1, 0}}, {Both: [2]int{0, 1}}, {Both: [2]int{2, 1}}, {Both: [2]int{2, 2}}, {Heavy: [2]int{2, 2}}, {Light: [2]int{2, 2}}, {Good: [2]int{2, 2}},
		{Both: [2]int{4, 0}, Heavy: [2]int{0, 3}, Good: [2]int{0, 1}}, {Both: [2]int{0, 4}, Heavy: [2]int{3, 0}, Good: [2]int{1, 0}},
		{Both: [2]int{-1, -1}}, {Both: [2]int{2, 1}, Heavy: [2]int{-1, 0}}, {Both: [2]int{1, 2}, Light: [2]int{0, -1}}, {Both: [2]int{2, 1}, Good: [2]int{-1, 0}},
		{Both: [2]int{-1, -1}, Heavy: [2]int{2, 1}, Light: [2]int{0, 1}}, {Heavy: [2]int{2, 1}, Both: [2]int{-1, 0}},
		{Both: [2]int{math.MaxInt, math.MaxInt}}, {Both: [2]int{math.MinInt, math.MinInt}}, {Both: [2]int{math.MaxInt, math.MinInt}},
		{Both: [2]int{1, 1}, Heavy: [2]int{math.MinInt, math.MinInt}, Light: [2]int{math.MinInt, math.MinInt}},
		{Both: [2]int{1, math.MaxInt}, Heavy: [2]int{0, 0}, Light: [2]int{0, math.MinInt}, Good: [2]int{0, 2}},
	} {
		for result := -1; result <= 1; result++ {
			if got, e := After(k, l, result); got != (Known{}) || e != api.ErrArg {
				t.Error(l, result, got, e)
			}
		}
	}
	for _, result := range []int{-2, 2, math.MaxInt, math.MinInt} {
		if got, e := After(k, Load{Both: [2]int{1, 1}}, result); got != (Known{}) || e != api.ErrArg {
			t.Error(result, got, e)
		}
		if got, e := After(Known{Heavy: 2}, Load{Heavy: [2]int{1, 1}}, result); got != (Known{}) || e != api.ErrArg {
			t.Error(result, got, e)
		}
	}
}

// coin is one that lies on a pan (-1 or 1) or aside (0), and may be heavier or lighter.
type coin struct {
	place        int
	heavy, light bool
}

// laidOut returns the coins of k, one by one, as l puts them.
func laidOut(k Known, l Load) []coin {
	var all []coin
	put := func(n int, pans [2]int, heavy, light bool) {
		for i := range n {
			c := coin{0, heavy, light}
			if i < pans[0] {
				c.place = -1
			} else if i < pans[0]+pans[1] {
				c.place = 1
			}
			all = append(all, c)
		}
	}
	put(k.Both, l.Both, true, true)
	put(k.Heavy, l.Heavy, true, false)
	put(k.Light, l.Light, false, true)
	put(k.Good, l.Good, false, false)
	return all
}

// seen returns what is known of the coins after the result, and whether it can come.
func seen(all []coin, none bool, result int) (Known, bool) {
	k := Known{None: none && result == 0}
	for _, c := range all {
		heavy, light := c.heavy && c.place == result, c.light && c.place == -result
		switch {
		case heavy && light:
			k.Both++
		case heavy:
			k.Heavy++
		case light:
			k.Light++
		default:
			k.Good++
		}
	}
	return k, k.Both+k.Heavy+k.Light > 0 || k.None
}

// P1.1: all weighings of few coins, against the coins one by one.
func TestAfterCoins(t *testing.T) {
	everyKnown(3, 3, func(k Known) {
		everyLoad(k, func(l Load) {
			all := laidOut(k, l)
			for result := -1; result <= 1; result++ {
				want, ok := seen(all, k.None, result)
				got, e := After(k, l, result)
				if ok && (got != want || e != api.OK) || !ok && (got != Known{} || e != api.ErrNone) {
					t.Error(k, l, result, got, e, want)
				}
			}
		})
	})
}

// everyLoad calls f with each Load for k.
func everyLoad(k Known, f func(Load)) {
	each := func(n int, g func([2]int)) {
		for l := 0; l <= n; l++ {
			for r := 0; l+r <= n; r++ {
				g([2]int{l, r})
			}
		}
	}
	each(k.Both, func(both [2]int) {
		each(k.Heavy, func(heavy [2]int) {
			each(k.Light, func(light [2]int) {
				each(k.Good, func(good [2]int) {
					on := both[0] + heavy[0] + light[0] + good[0]
					if on > 0 && on == both[1]+heavy[1]+light[1]+good[1] {
						f(Load{both, heavy, light, good})
					}
				})
			})
		})
	})
}

// P1.3: the least n with 3^n at least the number of possibilities.
func TestBound(t *testing.T) {
	for _, x := range []struct {
		k    Known
		want int
	}{
		{Known{Both: 13, None: true}, 3}, {Known{Both: 13}, 3}, {Known{Both: 5, None: true}, 3}, {Known{Both: 4, None: true}, 2}, {Known{Both: 4, Heavy: 1}, 2}, {Known{Both: 5}, 3},
		{Known{Heavy: 1}, 0}, {Known{None: true}, 0}, {Known{Both: 1}, 1}, {Known{Both: 1, None: true}, 1}, {Known{Heavy: 3}, 1}, {Known{Heavy: 3, None: true}, 2}, {Known{Light: 9, Good: 13}, 2}, {Known{Light: 10}, 3},
	} {
		if n, e := Bound(x.k); n != x.want || e != api.OK {
			t.Error(x, n, e)
		}
	}
	everyKnown(api.MaxCoins, 1, func(k Known) {
		p := 2*k.Both + k.Heavy + k.Light
		if k.None {
			p++
		}
		n, e := Bound(k)
		power := int(math.Pow(3, float64(n)))
		if e != api.OK || power < p || n > 0 && power/3 >= p {
			t.Error(k, n, e)
		}
	})
}
