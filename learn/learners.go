package learn

import "planchet/api"

// Say returns what the careful learner says.
func Say(p int, class []int, examples [][2]int, x int) (int, api.Errno) {
	return say(p, class, examples, x, false)
}

// Halve returns what the halving learner says.
func Halve(p int, class []int, examples [][2]int, x int) (int, api.Errno) {
	return say(p, class, examples, x, true)
}

// Worst returns the greatest number of mistakes.
func Worst(p int, class []int, halving bool) (int, api.Errno) {
	c, ok := read(p, class)
	if !ok {
		return 0, api.ErrArg
	}
	return c.worst(halving), api.OK
}

// say is Say, or Halve if halving.
func say(p int, class []int, examples [][2]int, x int, halving bool) (int, api.Errno) {
	c, ok := read(p, class)
	if !ok || !c.areExamples(examples) || !c.isPoint(x) {
		return 0, api.ErrArg
	}
	c = c.left(examples)
	if c.set == 0 {
		return 0, api.ErrState
	}
	return c.learner(halving)(x), api.OK
}

// learner returns what a learner says of a point while these concepts are left.
func (c concepts) learner(halving bool) func(x int) int {
	if halving {
		return c.halve
	}
	return c.careful
}

// careful needs no case for those with x or those without x being none: their dimension is then less than that of the others.
func (c concepts) careful(x int) int {
	if c.part(x, 1).dimension() > c.part(x, 0).dimension() {
		return 1
	}
	return 0
}

func (c concepts) halve(x int) int {
	if c.part(x, 1).size() > c.part(x, 0).size() {
		return 1
	}
	return 0
}

// worst leaves out the points on which those that are left agree: both learners are right there, and learn nothing.
func (c concepts) worst(halving bool) int {
	says := c.learner(halving)
	most := 0
	for x := range c.points {
		if !c.differ(x) {
			continue
		}
		for y := range 2 {
			mistakes := c.part(x, y).worst(halving)
			if says(x) != y {
				mistakes++
			}
			most = max(most, mistakes)
		}
	}
	return most
}
