package bets

import "planchet/api"

const maxDen = 60

// Score returns the score of a forecast: the average for someone who knows the world.
func Score(f []api.Frac, w int) (api.Frac, api.Errno) {
	forecast, ok := read(f)
	if !ok || w < 0 || w >= len(f) {
		return api.Frac{}, api.ErrArg
	}
	known := fractions{make([]int, len(f)), 1}
	known.nums[w] = 1
	return average(forecast, known), api.OK
}

// Mean returns the average score.
func Mean(f, b []api.Frac) (api.Frac, api.Errno) {
	forecast, ok := read(f)
	belief, also := read(b)
	if !ok || !also || len(f) != len(b) {
		return api.Frac{}, api.ErrArg
	}
	return average(forecast, belief), api.OK
}

// read returns the forecast that f is, and whether it is one. Its denominator is below 2^15: each power of a prime in it is in two of the Dens at least, or else they would not sum to 1; so its square is at most the product of 5 Dens.
func read(f []api.Frac) (fractions, bool) {
	if !isSize(len(f)) || !all(f, func(x api.Frac) bool { return x.Den <= maxDen }) {
		return fractions{}, false
	}
	forecast, ok := join(f)
	return forecast, ok && forecast.total() == forecast.den
}

// average returns the average score of a forecast with the chances of a belief.
func average(f, b fractions) api.Frac {
	num := 2*product(f, b)*f.den - product(f, f)*b.den
	return lowest(num, f.den*f.den*b.den)
}

// product returns the sum of the products of fractions, times both denominators.
func product(f, g fractions) int {
	sum := 0
	for i, num := range f.nums {
		sum += num * g.nums[i]
	}
	return sum
}
