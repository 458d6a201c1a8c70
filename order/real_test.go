package order

import (
	"reflect"
	"slices"
	"testing"

	"planchet/api"
)

// realizes reports whether j is above i if and only if j stands behind i in all lines.
func realizes(o []int, lines [][]int) bool {
	for i := range o {
		for j := range o {
			all := true
			for _, line := range lines {
				all = all && slices.Index(line, i) < slices.Index(line, j)
			}
			if all != above(o, i, j) {
				return false
			}
		}
	}
	return true
}

// firstOf returns the first realizer that begins with some lines and has so many more, whichever they are.
func firstOf(o []int, lines, begin [][]int, more int) [][]int {
	if more == 0 {
		if realizes(o, begin) {
			return slices.Clone(begin)
		}
		return nil
	}
	for _, line := range lines {
		if l := firstOf(o, lines, append(begin, line), more-1); l != nil {
			return l
		}
	}
	return nil
}

func smallest(o []int, lines [][]int) [][]int {
	for n := 0; ; n++ {
		if l := firstOf(o, lines, nil, n); l != nil {
			return l
		}
	}
}

// deep are orders that no two lines realize: three elements below all but one each of three others, that turned over, and two others with the fewest elements.
var deep = [][]int{{48, 40, 24, 0, 0, 0}, {0, 0, 0, 6, 5, 3}, {32, 32, 49, 50, 0, 0}, {16, 4, 0, 20, 0, 23}}

// P7.7: Real is the first of the realizers with the fewest lines, and Dim their number.
func TestReal(t *testing.T) {
	all := allSequences()
	check := func(o []int, want [][]int) {
		if l, e := Real(o); !reflect.DeepEqual(l, want) || e != api.OK {
			t.Error(o, l, want, e)
		}
		if n, e := Dim(o); n != len(want) || e != api.OK {
			t.Error(o, n, want, e)
		}
	}
	orders(997, func(o []int) {
		if lines := linesOf(o, all[len(o)]); len(lines) < 100 {
			check(o, smallest(o, lines))
		}
	})
	for _, o := range deep {
		want := smallest(o, linesOf(o, all[6]))
		if len(want) != 3 {
			t.Error(o, want)
		}
		check(o, want)
	}
	for n := 2; n <= 6; n++ {
		rising := all[n][0]
		falling := slices.Clone(rising)
		slices.Reverse(falling)
		check(make([]int, n), [][]int{rising, falling})
	}
}

// P7.13, P7.14: Dim is 1 just where no elements are free, at most the number of elements of Anti, at most 3, and turned over the same.
func TestDim(t *testing.T) {
	found := map[int]int{}
	check := func(o []int) {
		n, e := Dim(o)
		anti, _ := Anti(o)
		if (n == 1) == anyFree(o) || n < 1 || n > len(elements(anti)) || n > 3 || e != api.OK {
			t.Error(o, n, anti, e)
		}
		turned, _ := Turn(o)
		if m, e := Dim(turned); m != n || e != api.OK {
			t.Error(o, n, m, e)
		}
		found[n]++
	}
	orders(61, check)
	for _, o := range deep {
		check(o)
	}
	if found[1] == 0 || found[2] == 0 || found[3] < 5 {
		t.Error(found)
	}
}
