package bets

import (
	"math"
	"math/big"
	"slices"
	"testing"

	"planchet/api"
)

// forecasts returns all forecasts for n worlds in parts.
func forecasts(n, parts int) [][]api.Frac {
	var all [][]api.Frac
	for _, b := range grid(n, parts) {
		var f []api.Frac
		for _, x := range b {
			f = append(f, lowestOf(x, parts))
		}
		all = append(all, f)
	}
	return all
}

// forecast returns any forecast for n worlds: in parts of one kind, or the first two worlds share one half of the chances in parts of one kind, and the others share the other half in parts of another.
func forecast(r *uint64, n int) []api.Frac {
	if n < 4 || next(r, 2) == 0 {
		den := 1 + next(r, 60)
		return share(r, n, den, den)
	}
	first, second := 2+2*next(r, 30), 2+2*next(r, 30)
	return append(share(r, 2, first/2, first), share(r, n-2, second/2, second)...)
}

// share returns chances of n worlds that have so many parts of den together.
func share(r *uint64, n, parts, den int) []api.Frac {
	b := make([]int, n)
	for range parts {
		b[next(r, n)]++
	}
	f := make([]api.Frac, n)
	for w, x := range b {
		f[w] = lowestOf(x, den)
	}
	return f
}

// score takes the words of P9.7 one by one.
func score(f []api.Frac, w int) *big.Rat {
	x := new(big.Rat).Mul(rat(2, 1), value(f[w]))
	for _, y := range f {
		x.Sub(x, new(big.Rat).Mul(value(y), value(y)))
	}
	return x
}

// mean takes the words of P9.7 one by one.
func mean(f, b []api.Frac) *big.Rat {
	sum := new(big.Rat)
	for w := range f {
		sum.Add(sum, new(big.Rat).Mul(value(b[w]), score(f, w)))
	}
	return sum
}

// P9.7: the example, and ends.
func TestScoreExamples(t *testing.T) {
	half, zero, one := api.Frac{Num: 1, Den: 2}, api.Frac{Num: 0, Den: 1}, api.Frac{Num: 1, Den: 1}
	for _, x := range []struct {
		f    []api.Frac
		w    int
		want api.Frac
	}{
		{[]api.Frac{half, half}, 0, half},
		{[]api.Frac{half, half}, 1, half},
		{[]api.Frac{one, zero}, 0, one},
		{[]api.Frac{one, zero}, 1, api.Frac{Num: -1, Den: 1}},
		{[]api.Frac{half, half, zero}, 2, api.Frac{Num: -1, Den: 2}},
		{[]api.Frac{zero, zero, half, zero, half}, 4, half},
		{[]api.Frac{{Num: 1, Den: 60}, {Num: 59, Den: 60}}, 0, api.Frac{Num: 2*60 - 1 - 59*59, Den: 3600}},
		{[]api.Frac{{Num: 1, Den: 4}, {Num: 1, Den: 4}, {Num: 1, Den: 4}, {Num: 1, Den: 4}}, 3, api.Frac{Num: 1, Den: 4}},
	} {
		s, e := Score(x.f, x.w)
		if value(s).Cmp(value(x.want)) != 0 || !isFrac(s) || e != api.OK {
			t.Error(x, s, e)
		}
	}
	if s, e := Mean([]api.Frac{half, half}, []api.Frac{one, zero}); s != half || e != api.OK {
		t.Error(s, e)
	}
	if s, e := Mean([]api.Frac{one, zero}, []api.Frac{half, half}); s != zero || e != api.OK {
		t.Error(s, e)
	}
	if s, e := Mean([]api.Frac{one, zero}, []api.Frac{zero, one}); s != (api.Frac{Num: -1, Den: 1}) || e != api.OK {
		t.Error(s, e)
	}
}

// P9.7: what are no forecasts, and no worlds.
func TestWrongForecasts(t *testing.T) {
	half, zero, one := api.Frac{Num: 1, Den: 2}, api.Frac{Num: 0, Den: 1}, api.Frac{Num: 1, Den: 1}
	sure := []api.Frac{half, half}
	for _, f := range [][]api.Frac{
		nil, {one}, {one, zero, zero, zero, zero, zero},
		{half, {Num: 1, Den: 3}}, {half, one}, {zero, zero}, {one, one},
		{{Num: 1, Den: 61}, {Num: 60, Den: 61}}, {{Num: 1, Den: 2}, {Num: 2, Den: 4}}, {one, {Num: 0, Den: 7}},
		{{Num: 3, Den: 2}, {Num: -1, Den: 2}}, {{Num: -2, Den: 3}, one, {Num: 2, Den: 3}}, {{Num: -1, Den: -2}, half}, {{}, one}, {one, {}},
		{{Num: math.MinInt, Den: math.MinInt}, zero}, {{Num: math.MaxInt, Den: 1}, zero}, {{Num: 1, Den: math.MaxInt}, {Num: math.MaxInt - 1, Den: math.MaxInt}},
		{{Num: 1, Den: 59}, {Num: 1, Den: 58}, {Num: 1, Den: 57}, {Num: 1, Den: 55}, {Num: 1, Den: 53}},
	} {
		if s, e := Score(f, 0); s != (api.Frac{}) || e != api.ErrArg {
			t.Error(f, s, e)
		}
		if s, e := Mean(f, sure); s != (api.Frac{}) || e != api.ErrArg {
			t.Error(f, s, e)
		}
		if s, e := Mean(sure, f); s != (api.Frac{}) || e != api.ErrArg {
			t.Error(f, s, e)
		}
		if s, e := Mean(f, f); s != (api.Frac{}) || e != api.ErrArg {
			t.Error(f, s, e)
		}
	}
	for _, w := range []int{-1, 2, 5, math.MinInt, math.MaxInt} {
		if s, e := Score(sure, w); s != (api.Frac{}) || e != api.ErrArg {
			t.Error(w, s, e)
		}
	}
	if s, e := Mean(sure, []api.Frac{half, half, zero}); s != (api.Frac{}) || e != api.ErrArg {
		t.Error(s, e)
	}
}

// scores checks Score and Mean of two forecasts for the same worlds, and that one's own is the best.
func scores(t *testing.T, f, b []api.Frac) {
	given, also := slices.Clone(f), slices.Clone(b)
	for w := range f {
		if s, e := Score(f, w); !isFrac(s) || value(s).Cmp(score(f, w)) != 0 || e != api.OK {
			t.Fatal(f, w, s, e)
		}
	}
	m, e := Mean(f, b)
	if !isFrac(m) || value(m).Cmp(mean(f, b)) != 0 || e != api.OK {
		t.Fatal(f, b, m, e)
	}
	own, e := Mean(b, b)
	if e != api.OK || !slices.Equal(f, given) || !slices.Equal(b, also) {
		t.Fatal(f, b, own, e)
	}
	less := new(big.Rat).Sub(value(own), value(m))
	if less.Sign() < 0 || (less.Sign() == 0) != slices.Equal(f, b) {
		t.Fatal(f, b, m, own)
	}
	squares := new(big.Rat)
	for w := range f {
		d := new(big.Rat).Sub(value(f[w]), value(b[w]))
		squares.Add(squares, d.Mul(d, d))
	}
	if squares.Cmp(less) != 0 {
		t.Fatal(f, b, m, own, squares)
	}
}

// P9.7, P9.12: all forecasts in few parts, and any ones.
func TestScores(t *testing.T) {
	for n, parts := range map[int]int{2: 12, 3: 6, 4: 4, 5: 3} {
		for _, f := range forecasts(n, parts) {
			for _, b := range forecasts(n, parts) {
				scores(t, f, b)
			}
		}
	}
	r := uint64(11)
	for range 5000 {
		n := 2 + next(&r, 4)
		scores(t, forecast(&r, n), forecast(&r, n))
	}
}

// P9.7: forecasts with a least common denominator of 12540; of all forecasts none has a greater one.
func TestScoresFar(t *testing.T) {
	f := []api.Frac{{Num: 1, Den: 19}, {Num: 1, Den: 44}, {Num: 7, Den: 55}, {Num: 16, Den: 57}, {Num: 31, Den: 60}}
	last := slices.Clone(f)
	slices.Reverse(last)
	scores(t, f, f)
	scores(t, f, last)
}
