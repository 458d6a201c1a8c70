package order

import (
	"math/big"
	"reflect"
	"slices"
	"testing"

	"planchet/api"
)

// sequences returns all slices of n elements, each once, rising.
func sequences(n int) [][]int {
	all := [][]int{nil}
	for range n {
		var longer [][]int
		for _, s := range all {
			for e := range n {
				if !slices.Contains(s, e) {
					longer = append(longer, append(slices.Clone(s), e))
				}
			}
		}
		all = longer
	}
	return all
}

// allSequences has the sequences of each number of elements.
func allSequences() [][][]int {
	var all [][][]int
	for n := range 7 {
		all = append(all, sequences(n))
	}
	return all
}

// isLine reports whether no element stands behind one that is above it.
func isLine(o, s []int) bool {
	for at, e := range s {
		for _, behind := range s[at+1:] {
			if above(o, behind, e) {
				return false
			}
		}
	}
	return true
}

func linesOf(o []int, all [][]int) [][]int {
	var lines [][]int
	for _, s := range all {
		if isLine(o, s) {
			lines = append(lines, s)
		}
	}
	return lines
}

// withLines calls f with orders and their lines.
func withLines(step int, f func(o []int, lines [][]int)) {
	all := allSequences()
	orders(step, func(o []int) { f(o, linesOf(o, all[len(o)])) })
}

func stands(line []int, i, j int) bool { return slices.Index(line, i) < slices.Index(line, j) }

// same reports whether f is the fraction in lowest terms.
func same(f api.Frac, num, den int) bool {
	r := big.NewRat(int64(num), int64(den))
	return r.Num().Cmp(big.NewInt(int64(f.Num))) == 0 && r.Denom().Cmp(big.NewInt(int64(f.Den))) == 0
}

func rat(f api.Frac) *big.Rat { return big.NewRat(int64(f.Num), int64(f.Den)) }

// P7.2: all lines, rising, and how many there are.
func TestLines(t *testing.T) {
	withLines(151, func(o []int, lines [][]int) {
		l, e := Lines(o)
		if !reflect.DeepEqual(l, lines) || e != api.OK {
			t.Error(o, l, e)
		}
		if n, e := Count(o); n != len(lines) || e != api.OK {
			t.Error(o, n, e)
		}
	})
}

// P7.3: Chance is the part of the lines in which one stands before the other one.
func TestChance(t *testing.T) {
	withLines(211, func(o []int, lines [][]int) {
		for i := range o {
			for j := range o {
				f, e := Chance(o, i, j)
				if i == j {
					if f != (api.Frac{}) || e != api.ErrArg {
						t.Error(o, i, j, f, e)
					}
					continue
				}
				count := 0
				for _, line := range lines {
					if stands(line, i, j) {
						count++
					}
				}
				if !same(f, count, len(lines)) || e != api.OK {
					t.Error(o, i, j, f, e)
				}
			}
		}
	})
}

// P7.3: Height is the average of the index.
func TestHeight(t *testing.T) {
	withLines(211, func(o []int, lines [][]int) {
		for i := range o {
			sum := 0
			for _, line := range lines {
				sum += slices.Index(line, i)
			}
			if f, e := Height(o, i); !same(f, sum, len(lines)) || e != api.OK {
				t.Error(o, i, f, e)
			}
		}
	})
}

// away is how far a chance is from 1/2.
func away(f api.Frac) *big.Rat {
	d := new(big.Rat).Sub(rat(f), big.NewRat(1, 2))
	return d.Abs(d)
}

// P7.4: Even is the first of the free pairs whose chance is nearest to 1/2.
func TestEven(t *testing.T) {
	later, below := 0, 0
	orders(61, func(o []int) {
		var best [2]int
		var nearest *big.Rat
		for i := range o {
			for j := i + 1; j < len(o); j++ {
				if !free(o, i, j) {
					continue
				}
				f, _ := Chance(o, i, j)
				if d := away(f); nearest == nil || d.Cmp(nearest) < 0 {
					if nearest != nil {
						later++
					}
					if 2*f.Num < f.Den {
						below++
					}
					best, nearest = [2]int{i, j}, d
				}
			}
		}
		want := api.OK
		if nearest == nil {
			want = api.ErrNone
		}
		if p, e := Even(o); p != best || e != want {
			t.Error(o, p, e, best, want)
		}
	})
	if later == 0 || below == 0 {
		t.Error(later, below)
	}
}

// without returns the order without an element, those behind it having numbers one less.
func without(o []int, e int) []int {
	var less []int
	for i, set := range o {
		if i != e {
			less = append(less, set>>(e+1)<<e|set&(1<<e-1))
		}
	}
	return less
}

// P7.9: Count is the sum without each element that is above no other one, and that of a free pair both ways.
func TestCountTwice(t *testing.T) {
	orders(61, func(o []int) {
		count, _ := Count(o)
		sum := 0
		for e := range o {
			if slices.ContainsFunc(o, func(set int) bool { return set&(1<<e) != 0 }) {
				continue
			}
			if len(o) == 1 {
				sum++
				continue
			}
			n, err := Count(without(o, e))
			if err != api.OK {
				t.Error(o, e, err)
			}
			sum += n
		}
		if sum != count {
			t.Error(o, sum, count)
		}
		for i := range o {
			for j := range o {
				if !free(o, i, j) {
					continue
				}
				one, _ := Add(o, i, j)
				other, _ := Add(o, j, i)
				n, _ := Count(one)
				m, e := Count(other)
				if n+m != count || e != api.OK {
					t.Error(o, i, j, n, m, count, e)
				}
			}
		}
	})
}

// P7.10: chances both ways sum to 1, and are 1 just for what is settled; an even pair has one from 1/3 to 2/3.
func TestChances(t *testing.T) {
	one := big.NewRat(1, 1)
	orders(61, func(o []int) {
		for i := range o {
			for j := range o {
				if i == j {
					continue
				}
				f, _ := Chance(o, i, j)
				g, e := Chance(o, j, i)
				if new(big.Rat).Add(rat(f), rat(g)).Cmp(one) != 0 || e != api.OK {
					t.Error(o, i, j, f, g, e)
				}
				if (f == api.Frac{Num: 1, Den: 1}) != above(o, i, j) || (f == api.Frac{Num: 0, Den: 1}) != above(o, j, i) {
					t.Error(o, i, j, f)
				}
			}
		}
		p, e := Even(o)
		if (e == api.OK) != anyFree(o) {
			t.Error(o, p, e)
		}
		if e != api.OK {
			return
		}
		if f, e := Chance(o, p[0], p[1]); away(f).Cmp(big.NewRat(1, 6)) > 0 || e != api.OK {
			t.Error(o, p, f, e)
		}
	})
}

// P7.10, P7.13: heights sum to those of the indices, and turned over they are n - 1 less them; Count stays.
func TestHeights(t *testing.T) {
	orders(61, func(o []int) {
		turned, _ := Turn(o)
		sum := new(big.Rat)
		for i := range o {
			f, _ := Height(o, i)
			g, e := Height(turned, i)
			if new(big.Rat).Add(rat(f), rat(g)).Cmp(big.NewRat(int64(len(o)-1), 1)) != 0 || e != api.OK {
				t.Error(o, i, f, g, e)
			}
			sum.Add(sum, rat(f))
		}
		if sum.Cmp(big.NewRat(int64(len(o)*(len(o)-1)), 2)) != 0 {
			t.Error(o, sum)
		}
		n, _ := Count(o)
		if m, e := Count(turned); n != m || e != api.OK {
			t.Error(o, n, m, e)
		}
	})
}
