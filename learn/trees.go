package learn

import (
	"math/bits"

	"planchet/api"
)

// end stands for a Node that there is not, behind the last point that is asked.
const end = -1

// Dim returns the dimension.
func Dim(p int, class []int) (int, api.Errno) {
	c, ok := read(p, class)
	if !ok {
		return 0, api.ErrArg
	}
	return c.dimension(), api.OK
}

// Tree returns a deepest tree.
func Tree(p int, class []int) ([]Node, api.Errno) {
	c, ok := read(p, class)
	if !ok {
		return nil, api.ErrArg
	}
	return c.write(nil, c.dimension()), api.OK
}

// Check reports whether t is a tree, and its depth.
func Check(p int, class []int, t []Node) (int, bool, api.Errno) {
	c, ok := read(p, class)
	if !ok {
		return 0, false, api.ErrArg
	}
	depth := bits.Len(uint(len(t)))
	if len(t) != 1<<depth-1 || !areTold(t) || depth > 0 && !c.follow(t, 0, depth) {
		return 0, false, api.OK
	}
	return depth, true, api.OK
}

// dimension is -1 if there are no concepts, less than for any class.
func (c concepts) dimension() int {
	if c.set == 0 {
		return -1
	}
	depth := 0
	for x := range c.points {
		if c.differ(x) {
			depth = max(depth, 1+c.lesser(x))
		}
	}
	return depth
}

// lesser returns the lesser dimension of those without x and those with x.
func (c concepts) lesser(x int) int {
	return min(c.part(x, 0).dimension(), c.part(x, 1).dimension())
}

// write appends to t a tree of a depth that there is.
func (c concepts) write(t []Node, depth int) []Node {
	if depth == 0 {
		return t
	}
	x := 0
	for c.lesser(x) < depth-1 {
		x++
	}
	at := len(t)
	t = append(t, Node{x, end, end})
	if depth == 1 {
		return t
	}
	t[at].Zero = len(t)
	t = c.part(x, 0).write(t, depth-1)
	t[at].One = len(t)
	return c.part(x, 1).write(t, depth-1)
}

// areTold reports whether the Nodes tell only greater indices, and none of them twice.
func areTold(t []Node) bool {
	told := make([]bool, len(t))
	for at, n := range t {
		for _, next := range [2]int{n.Zero, n.One} {
			if next == end {
				continue
			}
			if next <= at || next >= len(t) || told[next] {
				return false
			}
			told[next] = true
		}
	}
	return true
}

// follow reports whether the Nodes from one on are a tree of a depth. Those of a tree from Node 0 on are all of them, if there are as many as it has and none is told twice.
func (c concepts) follow(t []Node, at, depth int) bool {
	if at == end || depth == 0 {
		return at == end && depth == 0 && c.set != 0
	}
	n := t[at]
	return c.isPoint(n.Point) && c.part(n.Point, 0).follow(t, n.Zero, depth-1) && c.part(n.Point, 1).follow(t, n.One, depth-1)
}
