package sure

import "planchet/api"

// equations has one equation for each set of signals: the weights of the signals in the set, and what the set could still take, sum to 1. The last equation is what is to be as great as can be: its right side is the sum so far, times -1. All numbers are integers: each equation is multiplied by scale, so that nothing is divided that has a remainder.
type equations struct {
	cells []int // all equations, one behind the other
	width int
	basis []int // for each set the unknown that its equation gives
	scale int
}

// greatest returns the greatest sum of weights from 0 on for n signals that in none of the sets sum to more than 1. Each signal is in some set.
func greatest(n int, sets []int) api.Frac {
	q := equate(n, sets)
	for {
		column := q.enter()
		if column < 0 {
			break
		}
		q.turn(q.leave(column), column)
	}
	sum := -q.row(len(sets))[q.width-1]
	d := divisor(sum, q.scale)
	return api.Frac{Num: sum / d, Den: q.scale / d}
}

// equate returns the equations for the weights 0: each set could take everything.
func equate(n int, sets []int) *equations {
	width := n + len(sets) + 1
	q := &equations{cells: make([]int, (len(sets)+1)*width), width: width, scale: 1}
	for i, set := range sets {
		row := q.row(i)
		for signal := range n {
			row[signal] = set >> signal & 1
		}
		row[n+i], row[width-1] = 1, 1
		q.basis = append(q.basis, n+i)
	}
	sum := q.row(len(sets))
	for signal := range n {
		sum[signal] = 1
	}
	return q
}

// row returns an equation, which ends where the next one begins.
func (q *equations) row(i int) []int {
	start, end := i*q.width, (i+1)*q.width
	return q.cells[start:end:end]
}

// enter returns the first unknown that makes the sum greater, or -1. The first ones, here and in leave, never lead round in a circle.
func (q *equations) enter() int {
	for column, n := range q.row(len(q.basis))[:q.width-1] {
		if n > 0 {
			return column
		}
	}
	return -1
}

// leave returns the equation that limits an unknown the most, and of several ones that of the first unknown.
func (q *equations) leave(column int) int {
	best := -1
	for i := range q.basis {
		if q.row(i)[column] > 0 && (best < 0 || q.isTighter(i, best, column)) {
			best = i
		}
	}
	return best
}

func (q *equations) isTighter(i, j, column int) bool {
	a, b := q.row(i), q.row(j)
	x, y := a[q.width-1]*b[column], b[q.width-1]*a[column]
	return x < y || x == y && q.basis[i] < q.basis[j]
}

// turn makes equation i give the unknown of a column, which all others lose.
func (q *equations) turn(i, column int) {
	given := q.row(i)
	by := given[column]
	for j := range len(q.basis) + 1 {
		if j == i {
			continue
		}
		row := q.row(j)
		times := row[column]
		for c := range row {
			row[c] = (row[c]*by - times*given[c]) / q.scale
		}
	}
	q.basis[i] = column
	q.scale = by
}
