package ranks

import "planchet/api"

// Way returns the first way.
func Way(t []int) ([]int, api.Errno) {
	if !valid(t) {
		return nil, api.ErrArg
	}
	way, _ := firstRow(t, len(t), func(first, last int) bool { return true })
	return way, api.OK
}

// Round returns the first round of k players.
func Round(t []int, k int) ([]int, api.Errno) {
	if !valid(t) || k < 3 || k > len(t) {
		return nil, api.ErrArg
	}
	round, ok := firstRow(t, k, func(first, last int) bool { return beats(t, last, first) })
	if !ok {
		return nil, api.ErrNone
	}
	return round, api.OK
}

// firstRow returns the first slice of k different players, each of whom beats the next one, with ends that fit.
func firstRow(t []int, k int, fit func(first, last int) bool) ([]int, bool) {
	var row []int
	var extend func(free, next int) bool
	extend = func(free, next int) bool {
		if len(row) == k {
			return fit(row[0], row[k-1])
		}
		for p := range players(next) {
			row = append(row, p)
			others := free &^ (1 << p)
			if extend(others, others&t[p]) {
				return true
			}
			row = row[:len(row)-1]
		}
		return false
	}
	ok := extend(everyone(t), everyone(t))
	return row, ok
}
