package bets

import (
	"cmp"
	"slices"

	"planchet/api"
)

const maxMultiple = 10_000_000_000

// fractions have one denominator, above 0.
type fractions struct {
	nums []int
	den  int
}

// join returns Fracs with their least common denominator, and whether they are Fracs from 0 to 1 for which that is not too great.
func join(l []api.Frac) (fractions, bool) {
	if !all(l, isPart) {
		return fractions{}, false
	}
	f := fractions{den: 1}
	for _, x := range l {
		times := x.Den / divisor(x.Den, f.den)
		if times > maxMultiple/f.den {
			return fractions{}, false
		}
		f.den *= times
	}
	for _, x := range l {
		f.nums = append(f.nums, f.den/x.Den*x.Num)
	}
	return f, true
}

// split returns fractions as Fracs.
func (f fractions) split() []api.Frac {
	var l []api.Frac
	for _, num := range f.nums {
		l = append(l, lowest(num, f.den))
	}
	return l
}

// sum returns the sum of the fractions in a set, times the denominator.
func (f fractions) sum(set int) int {
	sum := 0
	for i, num := range f.nums {
		sum += num * (set >> i & 1)
	}
	return sum
}

// total returns the sum of all fractions, times the denominator.
func (f fractions) total() int { return f.sum(1<<len(f.nums) - 1) }

// isPart reports whether f is a Frac from 0 to 1.
func isPart(f api.Frac) bool {
	return f.Den >= 1 && f.Num >= 0 && f.Num <= f.Den && divisor(f.Num, f.Den) == 1
}

// lowest returns num / den, where den is above 0.
func lowest(num, den int) api.Frac {
	d := divisor(max(num, -num), den)
	return api.Frac{Num: num / d, Den: den / d}
}

// divisor returns the greatest common divisor of numbers from 0.
func divisor(a, b int) int {
	for b != 0 {
		a, b = b, a%b
	}
	return a
}

func compare(a, b api.Frac) int { return cmp.Compare(a.Num*b.Den, b.Num*a.Den) }

// solve returns the unknowns of equations, each of which has its right side last, and whether these settle them. It changes the equations. All their numbers stay integers, for they become determinants of parts of the first ones.
func solve(rows [][]int) (fractions, bool) {
	right := len(rows[0]) - 1
	scale := 1
	for column := range right {
		first := slices.IndexFunc(rows[column:], func(row []int) bool { return row[column] != 0 })
		if first < 0 {
			return fractions{}, false
		}
		rows[column], rows[column+first] = rows[column+first], rows[column]
		clean(rows, column, scale)
		scale = rows[column][column]
	}
	if !all(rows[right:], func(row []int) bool { return row[right] == 0 }) {
		return fractions{}, false
	}
	f := fractions{den: max(scale, -scale)}
	for _, row := range rows[:right] {
		f.nums = append(f.nums, row[right]*(f.den/scale))
	}
	return f, true
}

// clean makes all equations but one lose the unknown of that one. What they have in common then is the scale of the unknowns before.
func clean(rows [][]int, column, scale int) {
	given := rows[column]
	by := given[column]
	for i, row := range rows {
		if i == column {
			continue
		}
		times := row[column]
		for c := range row {
			row[c] = (row[c]*by - given[c]*times) / scale
		}
	}
}
