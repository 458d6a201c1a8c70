package sure

import (
	"math"
	"math/big"
	"slices"
	"testing"

	"planchet/api"
)

// everyChoice calls f with each slice of n numbers below size.
func everyChoice(n, size int, f func(l []int)) {
	l := make([]int, n)
	var set func(i int)
	set = func(i int) {
		if i == n {
			f(l)
			return
		}
		for x := range size {
			l[i] = x
			set(i + 1)
		}
	}
	set(0)
}

// mostHalves returns the greatest sum of light weights that are halves, in halves.
func mostHalves(n int, sets []int) int {
	best := 0
	everyChoice(n, 3, func(w []int) {
		for _, set := range sets {
			sum := 0
			for _, i := range members(set) {
				sum += w[i]
			}
			if sum > 2 {
				return
			}
		}
		best = max(best, total(w))
	})
	return best
}

// leastHalves returns the least sum of shares that cover and are halves, in halves. Shares of sets within other ones are not needed.
func leastHalves(n int, sets []int) int {
	var greatest []int
	for _, set := range sets {
		if !slices.ContainsFunc(sets, func(other int) bool { return other != set && other&set == set }) {
			greatest = append(greatest, set)
		}
	}
	best := 2 * n
	everyChoice(len(greatest), 3, func(shares []int) {
		if total(shares) >= best {
			return
		}
		for i := range n {
			sum := 0
			for s, set := range greatest {
				if set&(1<<i) != 0 {
					sum += shares[s]
				}
			}
			if sum < 2 {
				return
			}
		}
		best = total(shares)
	})
	return best
}

func total(l []int) int {
	sum := 0
	for _, x := range l {
		sum += x
	}
	return sum
}

// P5.3, P5.9: Weigh is what light weights reach, and what shares that cover reach too: so nothing lies between.
func TestWeigh(t *testing.T) {
	graphs(101, func(g []int) {
		w, e := Weigh(g)
		if e != api.OK || w.Den < 1 || gcd(w.Num, w.Den) != 1 {
			t.Fatal(g, w, e)
		}
		sets := allCliques(g)
		if most, least := mostHalves(len(g), sets), leastHalves(len(g), sets); most*w.Den != 2*w.Num || least*w.Den != 2*w.Num {
			t.Error(g, w, most, least)
		}
	})
	for _, x := range []struct {
		g    []int
		want api.Frac
	}{
		{graphOf(6, 0), api.Frac{Num: 6, Den: 1}},
		{graphOf(6, 1<<15-1), api.Frac{Num: 1, Den: 1}},
		{append(slices.Clone(cycle), 0), api.Frac{Num: 7, Den: 2}},
		{[]int{50, 37, 42, 52, 41, 31}, api.Frac{Num: 5, Den: 2}},
	} {
		if w, e := Weigh(x.g); w != x.want || e != api.OK {
			t.Error(x, w, e)
		}
	}
	for _, g := range badGraphs {
		if w, e := Weigh(g); w != (api.Frac{}) || e != api.ErrArg {
			t.Error(len(g), w, e)
		}
	}
}

func gcd(a, b int) int {
	for d := a; d > 1; d-- {
		if a%d == 0 && b%d == 0 {
			return d
		}
	}
	return max(1, b*(1-min(a, 1)))
}

// P5.9: Weigh of Join is the product, of Sum the sum.
func TestWeighJoined(t *testing.T) {
	for n := 1; n <= 5; n++ {
		for m := 1; m <= 5; m++ {
			if n*m > 6 && n+m > 6 {
				continue
			}
			everyGraph(n, 1, func(g []int) {
				everyGraph(m, 1, func(h []int) {
					v, _ := Weigh(g)
					w, _ := Weigh(h)
					if l, e := Join(g, h); e == api.OK {
						if x, _ := Weigh(l); x.Num*v.Den*w.Den != v.Num*w.Num*x.Den {
							t.Error(g, h, v, w, x)
						}
					}
					if l, e := Sum(g, h); e == api.OK {
						if x, _ := Weigh(l); x.Num*v.Den*w.Den != (v.Num*w.Den+w.Num*v.Den)*x.Den {
							t.Error(g, h, v, w, x)
						}
					}
				})
			})
		}
	}
}

func rat(f api.Frac) *big.Rat { return big.NewRat(int64(f.Num), int64(f.Den)) }

// isLight tells in the document's words whether weights are light.
func isLight(g []int, w []api.Frac) bool {
	for _, set := range allCliques(g) {
		sum := new(big.Rat)
		for _, i := range members(set) {
			sum.Add(sum, rat(w[i]))
		}
		if sum.Cmp(big.NewRat(1, 1)) > 0 {
			return false
		}
	}
	return true
}

// P5.3: Light of weights of all kinds.
func TestLight(t *testing.T) {
	choices := []api.Frac{{Num: 0, Den: 1}, {Num: 1, Den: 3}, {Num: 1, Den: 2}, {Num: 2, Den: 3}, {Num: 1, Den: 1}}
	for n := 1; n <= 4; n++ {
		everyGraph(n, 1, func(g []int) {
			everyChoice(n, len(choices), func(l []int) {
				var w []api.Frac
				for _, i := range l {
					w = append(w, choices[i])
				}
				if ok, e := Light(g, w); ok != isLight(g, w) || e != api.OK {
					t.Error(g, w, ok, e)
				}
			})
		})
	}
	all := graphOf(6, 1<<15-1)
	r := uint64(3)
	for round := range 3000 {
		var w []api.Frac
		rest := big.NewRat(1, 1)
		for len(w) < 6 {
			r = r*6364136223846793005 + 1442695040888963407
			den := 53 + int(r>>33)%8
			num := int(r>>40) % (den / 4)
			if gcd(num, den) == 1 {
				w = append(w, api.Frac{Num: num, Den: den})
				rest.Sub(rest, big.NewRat(int64(num), int64(den)))
			}
		}
		if ok, e := Light(all, w); ok != (rest.Sign() >= 0) || e != api.OK {
			t.Error(round, w, ok, e)
		}
	}
}

// P5.3: a sum that is just 1, just less and just more, with denominators whose product is large.
func TestLightEdges(t *testing.T) {
	for _, x := range []struct {
		w    []api.Frac
		want bool
	}{
		{[]api.Frac{{Num: 1, Den: 60}, {Num: 59, Den: 60}}, true},
		{[]api.Frac{{Num: 1, Den: 59}, {Num: 59, Den: 60}}, false},
		{[]api.Frac{{Num: 1, Den: 60}, {Num: 58, Den: 59}}, true},
		{[]api.Frac{{Num: 1, Den: 2}, {Num: 1, Den: 3}, {Num: 1, Den: 6}}, true},
		{[]api.Frac{{Num: 1, Den: 2}, {Num: 1, Den: 3}, {Num: 7, Den: 41}}, false},
		{[]api.Frac{{Num: 10, Den: 59}, {Num: 9, Den: 58}, {Num: 10, Den: 57}, {Num: 9, Den: 55}, {Num: 9, Den: 53}, {Num: 8, Den: 51}}, true},
		{[]api.Frac{{Num: 10, Den: 59}, {Num: 9, Den: 58}, {Num: 10, Den: 57}, {Num: 9, Den: 55}, {Num: 9, Den: 53}, {Num: 9, Den: 49}}, false},
		{[]api.Frac{{Num: 1, Den: 1}}, true},
		{[]api.Frac{{Num: 0, Den: 1}, {Num: 1, Den: 1}}, true},
	} {
		g := graphOf(len(x.w), 1<<(len(x.w)*(len(x.w)-1)/2)-1)
		if isLight(g, x.w) != x.want {
			t.Fatal(x)
		}
		if ok, e := Light(g, x.w); ok != x.want || e != api.OK {
			t.Error(x, ok, e)
		}
	}
}

// P5.3: ErrArg for what are no weights.
func TestLightErrors(t *testing.T) {
	zero, half := api.Frac{Num: 0, Den: 1}, api.Frac{Num: 1, Den: 2}
	for _, f := range []api.Frac{
		{}, {Num: 0, Den: 2}, {Num: 2, Den: 4}, {Num: 1, Den: 0}, {Num: -1, Den: 2}, {Num: 1, Den: -2}, {Num: -1, Den: -2}, {Num: 3, Den: 2},
		{Num: 1, Den: 61}, {Num: 2, Den: 1}, {Num: 2, Den: 2}, {Num: 60, Den: 60}, {Num: 0, Den: -1}, {Num: math.MaxInt, Den: math.MaxInt},
		{Num: math.MinInt, Den: math.MinInt}, {Num: 1, Den: math.MinInt}, {Num: math.MinInt, Den: 1}, {Num: math.MaxInt, Den: 1}, {Num: 6, Den: 9},
	} {
		for _, w := range [][]api.Frac{{f, zero}, {zero, f}, {f, f}} {
			if ok, e := Light([]int{2, 1}, w); ok || e != api.ErrArg {
				t.Error(w, ok, e)
			}
		}
	}
	for _, w := range [][]api.Frac{nil, {}, {half}, {half, half, half}, make([]api.Frac, 100000)} {
		if ok, e := Light([]int{2, 1}, w); ok || e != api.ErrArg {
			t.Error(len(w), ok, e)
		}
	}
	for _, g := range badGraphs {
		for _, w := range [][]api.Frac{nil, {half}, {half, half}, slices.Repeat([]api.Frac{half}, 7)} {
			if ok, e := Light(g, w); ok || e != api.ErrArg {
				t.Error(len(g), w, ok, e)
			}
		}
	}
	if ok, e := Light([]int{0}, []api.Frac{{Num: 59, Den: 60}}); !ok || e != api.OK {
		t.Error(ok, e)
	}
}

// solve returns the solution of equations, each with its right side last, and whether there is just one.
func solve(rows [][]*big.Rat) ([]*big.Rat, bool) {
	n := len(rows)
	for c := range n {
		p := c
		for p < n && rows[p][c].Sign() == 0 {
			p++
		}
		if p == n {
			return nil, false
		}
		rows[c], rows[p] = rows[p], rows[c]
		for r := range n {
			if r == c || rows[r][c].Sign() == 0 {
				continue
			}
			by := new(big.Rat).Quo(rows[r][c], rows[c][c])
			for i := range rows[r] {
				rows[r][i] = new(big.Rat).Sub(rows[r][i], new(big.Rat).Mul(by, rows[c][i]))
			}
		}
	}
	var l []*big.Rat
	for c := range n {
		l = append(l, new(big.Rat).Quo(rows[c][n], rows[c][c]))
	}
	return l, true
}

// leastBack returns the least t by a search of all corners: the chances sum to 1, and n of the limits (a chance is 0, or an output is as likely as t) are reached.
func leastBack(channel []int) *big.Rat {
	n := len(channel)
	var limits [][]int64
	for i := range n {
		row := make([]int64, n+2)
		row[i] = 1
		limits = append(limits, row)
	}
	for output := range 8 {
		row := make([]int64, n+2)
		row[n] = -1
		for i := range n {
			row[i] = int64(channel[i] >> output & 1)
		}
		if slices.Max(row) > 0 {
			limits = append(limits, row)
		}
	}
	sum := slices.Repeat([]int64{1}, n+2)
	sum[n] = 0
	var best *big.Rat
	for set := range 1 << len(limits) {
		if len(members(set)) != n {
			continue
		}
		rows := [][]*big.Rat{rats(sum)}
		for _, i := range members(set) {
			rows = append(rows, rats(limits[i]))
		}
		l, ok := solve(rows)
		if ok && keeps(l, limits, n) && (best == nil || l[n].Cmp(best) < 0) {
			best = l[n]
		}
	}
	return best
}

func rats(l []int64) []*big.Rat {
	var out []*big.Rat
	for _, x := range l {
		out = append(out, big.NewRat(x, 1))
	}
	return out
}

// keeps reports whether the chances l, and then t, keep all limits.
func keeps(l []*big.Rat, limits [][]int64, n int) bool {
	for i, row := range limits {
		sum := new(big.Rat)
		for j, x := range l {
			sum.Add(sum, new(big.Rat).Mul(big.NewRat(row[j], 1), x))
		}
		if i < n && sum.Sign() < 0 || i >= n && sum.Sign() > 0 {
			return false
		}
	}
	return true
}

// P5.7, P5.12: Back by a search of all corners; it is from 1 / n to 1, and 1 only with an output of every signal.
func TestBack(t *testing.T) {
	r := uint64(11)
	check := func(channel []int) {
		f, e := Back(channel)
		if e != api.OK || f.Den < 1 || gcd(f.Num, f.Den) != 1 || rat(f).Cmp(leastBack(channel)) != 0 {
			t.Error(channel, f, e)
		}
	}
	for size := 1; size <= 3; size++ {
		everyChoice(size, 7, func(l []int) {
			channel := slices.Clone(l)
			for i := range channel {
				channel[i]++
			}
			check(channel)
		})
	}
	for size := 3; size <= 5; size++ {
		for outputs := 3; outputs <= 6; outputs++ {
			for range 6 {
				check(someChannel(size, outputs, &r))
			}
		}
	}
	for range 3 {
		check(someChannel(6, 8, &r))
	}
	// Of these an output that is reached on the way is not reached at the end.
	for _, channel := range [][]int{{116, 67, 10, 5, 16}, {38, 21, 41, 3, 8}, {19, 42, 25, 53, 4}, {61, 10, 50, 39, 20}} {
		check(channel)
	}
	check([]int{3, 6, 12, 24, 17})
	check([]int{7, 25, 42, 52, 192})
	check([]int{1, 1, 1, 1, 1, 1})
	check([]int{1, 2, 4, 8, 16, 128})
}

// P5.12: the bounds of Back.
func TestBackBounds(t *testing.T) {
	someChannels(30, func(channel []int) {
		f, _ := Back(channel)
		common := 255
		for _, outputs := range channel {
			common &= outputs
		}
		if f.Num*len(channel) < f.Den || f.Num > f.Den || (f == api.Frac{Num: 1, Den: 1}) != (common != 0) {
			t.Error(channel, f)
		}
		g, _ := Confusions(channel)
		if number(t, g, 1)*f.Num > f.Den {
			t.Error(channel, f)
		}
	})
	for _, channel := range badChannels {
		if f, e := Back(channel); f != (api.Frac{}) || e != api.ErrArg {
			t.Error(len(channel), f, e)
		}
	}
}
