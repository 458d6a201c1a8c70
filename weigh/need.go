package weigh

import "planchet/api"

// goal is to settle what is known within n weighings.
type goal struct {
	k Known
	n int
}

// search keeps which goals were tried, and whether they can be reached.
type search struct{ tried map[goal]bool }

func newSearch() search { return search{tried: map[goal]bool{}} }

// Need returns how many weighings are needed.
func Need(k Known) (int, api.Errno) {
	if !valid(k) {
		return 0, api.ErrArg
	}
	n, ok := newSearch().need(k)
	if !ok {
		return 0, api.ErrNone
	}
	return n, api.OK
}

// Best returns a best Load.
func Best(k Known) (Load, api.Errno) {
	if !valid(k) {
		return Load{}, api.ErrArg
	}
	s := newSearch()
	n, ok := s.need(k)
	if !ok || n == 0 {
		return Load{}, api.ErrNone
	}
	l, _ := s.load(k, n)
	return l, api.OK
}

// need tries fewer weighings than there are possibilities: each weighing of a shortest plan rules one out, or it would leave the same Known.
func (s search) need(k Known) (int, bool) {
	p := possibilities(k)
	for n := fewest(p); n < p; n++ {
		if s.settles(k, n) {
			return n, true
		}
	}
	return 0, false
}

// settles reports whether n weighings can leave one possibility.
func (s search) settles(k Known, n int) bool {
	p := possibilities(k)
	if p == 1 {
		return true
	}
	if fewest(p) > n {
		return false
	}
	g := goal{k, n}
	if ok, found := s.tried[g]; found {
		return ok
	}
	_, ok := s.load(k, n)
	s.tried[g] = ok
	return ok
}

// load returns the first Load of n weighings that settle k, n being at least 1.
func (s search) load(k Known, n int) (Load, bool) {
	for _, l := range loads(k) {
		if s.follows(k, l, n-1) {
			return l, true
		}
	}
	return Load{}, false
}

// follows reports whether n weighings suffice after every result that can come.
func (s search) follows(k Known, l Load, n int) bool {
	for result := leftHeavier; result <= rightHeavier; result++ {
		next := after(k, l, result)
		if possibilities(next) > 0 && !s.settles(next, n) {
			return false
		}
	}
	return true
}

// loads returns the Loads that differ in what they tell: exchanging the pans, or a Good coin more on each of them, tells nothing else.
func loads(k Known) []Load {
	var all []Load
	for _, both := range splits(k.Both) {
		for _, heavy := range splits(k.Heavy) {
			for _, light := range splits(k.Light) {
				l := Load{Both: both, Heavy: heavy, Light: light}
				more := onPan(l, left) - onPan(l, right)
				if more < 0 || more > k.Good || onPan(l, left) == 0 {
					continue
				}
				l.Good[right] = more
				all = append(all, l)
			}
		}
	}
	return all
}

// splits returns all ways to put some of n coins on the two pans.
func splits(n int) [][2]int {
	var all [][2]int
	for l := range n + 1 {
		for r := range n + 1 - l {
			all = append(all, [2]int{l, r})
		}
	}
	return all
}
