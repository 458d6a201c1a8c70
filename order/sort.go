package order

import "planchet/api"

const (
	maxNodes = 800
	// end is the index that follows where all is settled.
	end = -1
)

// Need returns how many comparisons are needed.
func Need(o []int) (int, api.Errno) {
	x, ok := read(o)
	if !ok {
		return 0, api.ErrArg
	}
	return newSorter().need(x), api.OK
}

// Sort returns a best plan to sort.
func Sort(o []int) ([]Node, api.Errno) {
	x, ok := read(o)
	if !ok {
		return nil, api.ErrArg
	}
	s := newSorter()
	p, _ := s.write(nil, x, s.need(x))
	return p, api.OK
}

// Check reports whether p is a plan to sort, and its length.
func Check(o []int, p []Node) (int, bool, api.Errno) {
	x, ok := read(o)
	if !ok {
		return 0, false, api.ErrArg
	}
	if !x.arePlanned(p) {
		return 0, false, api.OK
	}
	begin := end
	if len(p) > 0 {
		begin = 0
	}
	length, ok := x.follow(p, begin)
	if !ok {
		return 0, false, api.OK
	}
	return length, true, api.OK
}

// arePlanned reports whether p can be the Nodes of a plan, whatever ways lead to them.
func (x order) arePlanned(p []Node) bool {
	if len(p) > maxNodes {
		return false
	}
	for at, n := range p {
		if !x.haveBoth(n.A, n.B) || n.A == n.B || !comesNext(n.Less, at, len(p)) || !comesNext(n.More, at, len(p)) {
			return false
		}
	}
	return true
}

func comesNext(next, at, nodes int) bool { return next == end || next > at && next < nodes }

// follow returns the length of the plan that begins at an index of p, and whether it sorts x. No two that are settled are compared, so no line agrees with two ways, and there are few.
func (x order) follow(p []Node, at int) (int, bool) {
	if at == end {
		return 0, x.isSettled()
	}
	n := p[at]
	if !x.free(n.A, n.B) {
		return 0, false
	}
	less, ok := x.with(n.A, n.B).follow(p, n.Less)
	if !ok {
		return 0, false
	}
	more, ok := x.with(n.B, n.A).follow(p, n.More)
	return 1 + max(less, more), ok
}

func (x order) isSettled() bool { return x.isChain(x.all()) }

// task is to sort an order by so many comparisons.
type task struct {
	above       sets
	comparisons int
}

// sorter keeps which tasks were tried, and whether they can be done.
type sorter struct{ tried map[task]bool }

func newSorter() sorter { return sorter{map[task]bool{}} }

func (s sorter) need(x order) int {
	need := 0
	for !s.sorts(x, need) {
		need++
	}
	return need
}

// sorts reports whether so many comparisons sort x.
func (s sorter) sorts(x order, comparisons int) bool {
	if lines := x.count(); lines == 1 || lines > 1<<comparisons {
		return lines == 1
	}
	t := task{x.above, comparisons}
	if ok, found := s.tried[t]; found {
		return ok
	}
	_, ok := s.first(x, comparisons)
	s.tried[t] = ok
	return ok
}

// first returns a pair with which so many comparisons begin that sort x, and whether there is one.
func (s sorter) first(x order, comparisons int) ([2]int, bool) {
	for _, pair := range x.pairs() {
		i, j := pair[0], pair[1]
		if s.sorts(x.with(i, j), comparisons-1) && s.sorts(x.with(j, i), comparisons-1) {
			return pair, true
		}
	}
	return [2]int{}, false
}

// write appends to p the Nodes of a plan that sorts x by so many comparisons, which suffice, and returns the index of the first one.
func (s sorter) write(p []Node, x order, comparisons int) ([]Node, int) {
	if x.isSettled() {
		return p, end
	}
	pair, _ := s.first(x, comparisons)
	i, j := pair[0], pair[1]
	at := len(p)
	p = append(p, Node{A: i, B: j})
	p, less := s.write(p, x.with(i, j), comparisons-1)
	p, more := s.write(p, x.with(j, i), comparisons-1)
	p[at].Less, p[at].More = less, more
	return p, at
}
