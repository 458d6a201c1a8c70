package sure

import "planchet/api"

const maxDen = 60

// Weigh returns the greatest sum of light weights.
func Weigh(g []int) (api.Frac, api.Errno) {
	if !isGraph(g) {
		return api.Frac{}, api.ErrArg
	}
	return greatest(len(g), cliques(g)), api.OK
}

// Light reports whether weights are light.
func Light(g []int, w []api.Frac) (bool, api.Errno) {
	if !isGraph(g) || len(w) != len(g) || !areWeights(w) {
		return false, api.ErrArg
	}
	den := 1
	for _, f := range w {
		den = den / divisor(den, f.Den) * f.Den
	}
	for _, set := range cliques(g) {
		sum := 0
		for i, f := range w {
			if has(set, i) {
				sum += den / f.Den * f.Num
			}
		}
		if sum > den {
			return false, api.OK
		}
	}
	return true, api.OK
}

// Back returns the least chance at an output.
func Back(channel []int) (api.Frac, api.Errno) {
	if !isChannel(channel) {
		return api.Frac{}, api.ErrArg
	}
	// Chances of which at most t come together, divided by t, are weights of which at most 1 comes together, and their sum is 1 / t.
	sum := greatest(len(channel), meetings(channel))
	return api.Frac{Num: sum.Den, Den: sum.Num}, api.OK
}

// meetings returns for each output that can come the set of the signals with which it can.
func meetings(channel []int) []int {
	var l []int
	for output := range maxOutputs {
		set := 0
		for i, outputs := range channel {
			if has(outputs, output) {
				set |= 1 << i
			}
		}
		if set != 0 {
			l = append(l, set)
		}
	}
	return l
}

func areWeights(w []api.Frac) bool {
	for _, f := range w {
		if f.Den < 1 || f.Den > maxDen || f.Num < 0 || f.Num > f.Den || divisor(f.Num, f.Den) != 1 {
			return false
		}
	}
	return true
}

// divisor returns the greatest common divisor of numbers from 0 of which one at least is not 0.
func divisor(a, b int) int {
	for b != 0 {
		a, b = b, a%b
	}
	return a
}
