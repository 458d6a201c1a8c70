package sure

import "planchet/api"

const maxFit = 5

// Fit returns the least rank of a fitting matrix.
func Fit(g []int) (int, api.Errno) {
	if !isGraph(g) || len(g) > maxFit {
		return 0, api.ErrArg
	}
	return fit(g, 0, []int{0}), api.OK
}

// fit returns by how much the rows from row i on must raise the rank at least, span being all sums of the rows before. A row within the span raises nothing; so there is no choice to make then.
func fit(g []int, i int, span []int) int {
	if i == len(g) {
		return 0
	}
	for _, row := range span {
		if fits(g, i, row) {
			return fit(g, i+1, span)
		}
	}
	best := len(g)
	for row := range 1 << len(g) {
		if fits(g, i, row) {
			best = min(best, 1+fit(g, i+1, widen(span, row)))
		}
	}
	return best
}

// fits reports whether row may be row i: with 1 at i, and else only at neighbours.
func fits(g []int, i, row int) bool {
	return row&^g[i] == 1<<i
}

// widen returns the span with the sums with one more row.
func widen(span []int, row int) []int {
	wide := append([]int{}, span...)
	for _, sum := range span {
		wide = append(wide, sum^row)
	}
	return wide
}
