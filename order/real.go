package order

import (
	"slices"

	"planchet/api"
)

// Real returns the first smallest realizer.
func Real(o []int) ([][]int, api.Errno) {
	x, ok := read(o)
	if !ok {
		return nil, api.ErrArg
	}
	return x.realizer(), api.OK
}

// Dim returns how many lines it has.
func Dim(o []int) (int, api.Errno) {
	x, ok := read(o)
	if !ok {
		return 0, api.ErrArg
	}
	return len(x.realizer()), api.OK
}

// realizer returns the first smallest realizer. Its lines rise: a realizer stays one in any order, and none is in a smallest one twice.
func (x order) realizer() [][]int {
	s := search{aim: x.above, lines: x.lines()}
	for _, line := range s.lines {
		s.above = append(s.above, aboveIn(line))
	}
	for many := 1; ; many++ {
		// All lines together are a realizer, so the search ends.
		if l, ok := s.choose(0, many, everything()); ok {
			return l
		}
	}
}

// search is for lines that have nothing in common but the aim.
type search struct {
	aim   sets
	lines [][]int
	above []sets // for each line, what it has above elements
}

// choose returns the first so many lines, from an index on, that have with each other and with common just the aim in common, and whether there are any.
func (s search) choose(from, many int, common sets) ([][]int, bool) {
	if many == 0 {
		return nil, common == s.aim
	}
	for at := from; at < len(s.lines); at++ {
		if rest, ok := s.choose(at+1, many-1, common.meet(s.above[at])); ok {
			return append([][]int{s.lines[at]}, rest...), true
		}
	}
	return nil, false
}

func aboveIn(line []int) sets {
	var above sets
	behind := 0
	for _, e := range slices.Backward(line) {
		above[e] = behind
		behind |= 1 << e
	}
	return above
}

// everything has each element above each one, so that other sets have all of theirs in common with it.
func everything() sets {
	var all sets
	for e := range all {
		all[e] = 1<<len(all) - 1
	}
	return all
}

func (s sets) meet(others sets) sets {
	for e, set := range others {
		s[e] &= set
	}
	return s
}
