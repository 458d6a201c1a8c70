package talk

import (
	"math/bits"
	"slices"

	"planchet/api"
)

// prime is one for which the rank modulo it is the rank over the fractions: the determinants of at most 4 rows and columns of 0 and 1 are from -3 to 3, so just those that are 0 are 0 modulo 5.
const prime = 5

// matrix is a table with rows and columns of 0 added: these change no rank.
type matrix [api.MaxTable][api.MaxTable]int

// Rank returns the rank.
func Rank(t [][]int) (int, api.Errno) {
	if _, ok := read(t); !ok {
		return 0, api.ErrArg
	}
	return rank(fill(t), prime), api.OK
}

// Rank2 returns the rank modulo 2.
func Rank2(t [][]int) (int, api.Errno) {
	if _, ok := read(t); !ok {
		return 0, api.ErrArg
	}
	return rank(fill(t), 2), api.OK
}

// Once returns what one jury must say alone.
func Once(t [][]int) (int, api.Errno) {
	if _, ok := read(t); !ok {
		return 0, api.ErrArg
	}
	return bits.Len(uint(different(fill(t), len(t)) - 1)), api.OK
}

func fill(t [][]int) matrix {
	var m matrix
	for r, values := range t {
		copy(m[r][:], values)
	}
	return m
}

// rank returns the rank modulo a prime: the number of rows that are left when each of them has cleared a column of the rows below.
func rank(m matrix, modulo int) int {
	done := 0
	for c := range api.MaxTable {
		r := done
		for r < api.MaxTable && m[r][c] == 0 {
			r++
		}
		if r == api.MaxTable {
			continue
		}
		m[done], m[r] = m[r], m[done]
		for r++; r < api.MaxTable; r++ {
			m[r] = without(m[r], m[done], c, modulo)
		}
		done++
	}
	return done
}

// without returns a multiple of a row less one of the other, so that column c of it is 0.
func without(l, other [api.MaxTable]int, c, modulo int) [api.MaxTable]int {
	var out [api.MaxTable]int
	for i := range out {
		out[i] = (l[i]*other[c] - other[i]*l[c]) % modulo
	}
	return out
}

// different counts the different ones of the first rows.
func different(m matrix, rows int) int {
	n := 0
	for r := range rows {
		if !slices.Contains(m[:r], m[r]) {
			n++
		}
	}
	return n
}
