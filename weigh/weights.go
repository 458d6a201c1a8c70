package weigh

import "planchet/api"

const (
	maxNumbers = 5    // of weights
	maxWeight  = 200  // of weights that are given
	maxFound   = 60   // of weights that are found
	maxWeighed = 40   // what found weights may have to weigh
	maxLaid    = 1000 // what is laid on two pans
)

// Weighs returns up to which number weights weigh all.
func Weighs(w []int) (int, api.Errno) {
	if !areWeights(w) {
		return 0, api.ErrArg
	}
	sums := map[int]bool{0: true}
	for _, weight := range w {
		sums = reached(sums, weight)
	}
	return unbroken(sums), api.OK
}

// Weights returns the first fewest weights. k numbers have 3^k sums at most, as many below 0 as above it, and the first k powers of 3 have them all: so their number is known before the search.
func Weights(n int) ([]int, api.Errno) {
	if n < 1 || n > maxWeighed {
		return nil, api.ErrArg
	}
	w, _ := first(map[int]bool{0: true}, 1, fewest(2*n+1), n)
	return w, api.OK
}

// Pans returns how a number is laid on two pans.
func Pans(n int) ([]int, api.Errno) {
	if n < -maxLaid || n > maxLaid {
		return nil, api.ErrArg
	}
	return digits(n), api.OK
}

func areWeights(w []int) bool {
	if len(w) < 1 || len(w) > maxNumbers {
		return false
	}
	last := 0
	for _, weight := range w {
		if weight <= last || weight > maxWeight {
			return false
		}
		last = weight
	}
	return true
}

// reached returns the sums reached with one weight more: on the one pan, on the other one, or on none.
func reached(sums map[int]bool, weight int) map[int]bool {
	more := make(map[int]bool, 3*len(sums))
	for s := range sums {
		more[s-weight], more[s], more[s+weight] = true, true, true
	}
	return more
}

// unbroken returns the greatest n with all of 1 to n among the sums.
func unbroken(sums map[int]bool) int {
	n := 0
	for sums[n+1] {
		n++
	}
	return n
}

// first returns the first so many weights from least on that, with the sums that others reach, weigh all of 1 to n.
func first(sums map[int]bool, least, numbers, n int) ([]int, bool) {
	if numbers == 0 {
		return nil, unbroken(sums) >= n
	}
	for weight := least; weight <= maxFound; weight++ {
		if rest, ok := first(reached(sums, weight), weight+1, numbers-1, n); ok {
			return append([]int{weight}, rest...), true
		}
	}
	return nil, false
}

// digits returns the digits from -1 to 1 of n to the base 3, that of 1 first.
func digits(n int) []int {
	var l []int
	for n != 0 {
		d := n % 3
		if d == 2 || d == -2 {
			d /= -2
		}
		l = append(l, d)
		n = (n - d) / 3
	}
	return l
}
