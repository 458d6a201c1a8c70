package talk

import "planchet/api"

const (
	maxNodes = 100               // of a plan
	sets     = 1 << api.MaxTable // of rows, or of columns
)

// Check reports whether a plan is right, and its length.
func Check(t [][]int, p []Node) (int, bool, api.Errno) {
	if _, ok := read(t); !ok {
		return 0, false, api.ErrArg
	}
	if !isPlan(p) || !isRight(p, t) {
		return 0, false, api.OK
	}
	return length(p), true, api.OK
}

// Length returns the least length of a plan.
func Length(t [][]int) (int, api.Errno) {
	x, ok := read(t)
	if !ok {
		return 0, api.ErrArg
	}
	return settled(x).step(x.all).length, api.OK
}

// Plan returns a shortest plan.
func Plan(t [][]int) ([]Node, api.Errno) {
	x, ok := read(t)
	if !ok {
		return nil, api.ErrArg
	}
	return settled(x).write(nil, x.all), api.OK
}

// Run returns what is said.
func Run(p []Node, row, column int) ([]int, api.Errno) {
	if !isPlan(p) || !isIndex(row) || !isIndex(column) {
		return nil, api.ErrArg
	}
	return said(p, [2]int{row, column}), api.OK
}

func isPlan(p []Node) bool {
	if len(p) < 1 || len(p) > maxNodes {
		return false
	}
	for at, n := range p {
		if !ends(n) && !speaks(n, at, len(p)) {
			return false
		}
	}
	return true
}

// ends reports whether n is a Leaf of a plan.
func ends(n Node) bool { return isValue(n.Value) && n == Node{Leaf: true, Value: n.Value} }

// speaks reports whether n can be at an index of so many Nodes, as one that is no Leaf.
func speaks(n Node, at, nodes int) bool {
	follow := n.No > at && n.No < nodes && n.Yes > at && n.Yes < nodes
	return !n.Leaf && n.Value == 0 && isValue(n.Who) && n.Set >= 0 && n.Set < sets && follow
}

// isRight reports whether a plan ends with the value of each entry.
func isRight(p []Node, t [][]int) bool {
	for r, values := range t {
		for c, v := range values {
			if l := said(p, [2]int{r, c}); l[len(l)-1] != v {
				return false
			}
		}
	}
	return true
}

// said is Run for a plan and an entry.
func said(p []Node, entry [2]int) []int {
	var l []int
	n := p[0]
	for !n.Leaf {
		word := n.Set >> entry[n.Who] & 1
		l = append(l, word)
		n = p[[2]int{n.No, n.Yes}[word]]
	}
	return append(l, n.Value)
}

// length takes the Nodes from the back, since those that follow have greater indices.
func length(p []Node) int {
	lengths := make([]int, len(p))
	for at := len(p) - 1; at >= 0; at-- {
		if n := p[at]; !n.Leaf {
			lengths[at] = 1 + max(lengths[n.No], lengths[n.Yes])
		}
	}
	return lengths[0]
}

// debate is a table with the first step of a shortest talk for each rectangle that the talk may have come down to.
type debate struct {
	table
	steps [sets][sets]step
}

// step is who speaks and of which set, and how many Nodes speak from there on: none in a rectangle that is clear.
type step struct{ who, set, length int }

// settled returns the debate about a table. What is best in a rectangle depends on those within it alone, which come earlier.
func settled(t table) *debate {
	d := &debate{table: t}
	for r := range d.rectangles() {
		d.steps[r[row]][r[column]] = d.best(r)
	}
	return d
}

func (d *debate) step(rectangle [2]int) step { return d.steps[rectangle[row]][rectangle[column]] }

// best returns the first step in a rectangle, once those within it are settled.
func (d *debate) best(rectangle [2]int) step {
	if d.isClear(rectangle, 0) || d.isClear(rectangle, 1) {
		return step{}
	}
	best := step{length: maxNodes}
	for who, all := range rectangle {
		for set := (all - 1) & all; set != 0; set = (set - 1) & all {
			no, yes := split(rectangle, who, set)
			n := 1 + max(d.step(no).length, d.step(yes).length)
			if n < best.length {
				best = step{who, set, n}
			}
		}
	}
	return best
}

// split returns the rectangles that are left when the answer is no, and when it is yes.
func split(rectangle [2]int, who, set int) (no, yes [2]int) {
	no, yes = rectangle, rectangle
	no[who] &^= set
	yes[who] &= set
	return no, yes
}

// write appends to p the Nodes of a shortest talk about a rectangle.
func (d *debate) write(p []Node, rectangle [2]int) []Node {
	s := d.step(rectangle)
	if s.length == 0 {
		return append(p, d.end(rectangle))
	}
	no, yes := split(rectangle, s.who, s.set)
	at := len(p)
	p = append(p, Node{Who: s.who, Set: s.set, No: at + 1})
	p = d.write(p, no)
	p[at].Yes = len(p)
	return d.write(p, yes)
}

// end returns the Leaf for a rectangle that is clear.
func (d *debate) end(rectangle [2]int) Node {
	if d.isClear(rectangle, 1) {
		return Node{Leaf: true, Value: 1}
	}
	return Node{Leaf: true}
}
