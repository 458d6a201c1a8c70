package evade

import "planchet/api"

const (
	maxNodes = 70
	// end is the index that follows where it is settled whether the set is in the family.
	end = -1
)

// Early reports whether a family is settled early. It is so just where some plan never asks all elements: with each element that settles it, one is asked and gone.
func Early(n int, f []int) (bool, api.Errno) {
	need, e := Ask(n, f)
	return e == api.OK && need < n, e
}

// Ask returns the least length of a plan.
func Ask(n int, f []int) (int, api.Errno) {
	x, ok := read(n, f)
	if !ok {
		return 0, api.ErrArg
	}
	return newAsker(x).need(), api.OK
}

// Plan returns a shortest plan.
func Plan(n int, f []int) ([]Node, api.Errno) {
	x, ok := read(n, f)
	if !ok {
		return nil, api.ErrArg
	}
	p, _ := newAsker(x).write(nil)
	return p, api.OK
}

// Check reports whether p is a plan, and its length.
func Check(n int, f []int, p []Node) (int, bool, api.Errno) {
	x, ok := read(n, f)
	if !ok {
		return 0, false, api.ErrArg
	}
	if !arePlanned(p, n) {
		return 0, false, api.OK
	}
	begin := end
	if len(p) > 0 {
		begin = 0
	}
	length, ok := x.follow(p, begin)
	if !ok {
		return 0, false, api.OK
	}
	return length, true, api.OK
}

// arePlanned reports whether p can be the Nodes of a plan for n elements, whatever ways lead to them.
func arePlanned(p []Node, n int) bool {
	if len(p) > maxNodes {
		return false
	}
	for at, node := range p {
		if !isElement(node.Ask, n) || !comesNext(node.Out, at, len(p)) || !comesNext(node.In, at, len(p)) {
			return false
		}
	}
	return true
}

func comesNext(next, at, nodes int) bool { return next == end || next > at && next < nodes }

// follow returns the length of the plan that begins at an index of p, and whether it is one for f. No element is asked twice, so the ways are few.
func (f family) follow(p []Node, at int) (int, bool) {
	if at == end || f.isSettled() {
		return 0, at == end && f.isSettled()
	}
	x := p[at].Ask
	if f.rest>>x&1 == 0 {
		return 0, false
	}
	out, ok := f.without(x).follow(p, p[at].Out)
	if !ok {
		return 0, false
	}
	in, ok := f.link(x).follow(p, p[at].In)
	return 1 + max(out, in), ok
}

// asker asks for a set until it is settled whether it is in a family. It keeps how many elements must be asked for each family that may be left then.
type asker struct {
	family
	known map[family]int
}

func newAsker(f family) asker { return asker{f, map[family]int{}} }

// after returns the asker that goes on with the link of x, or with what is left without it.
func (a asker) after(half func(family, int) family, x int) asker {
	return asker{half(a.family, x), a.known}
}

// need returns the least length of a plan.
func (a asker) need() int {
	if a.isSettled() {
		return 0
	}
	need, found := a.known[a.family]
	if !found {
		_, need = a.first()
		a.known[a.family] = need
	}
	return need
}

// first returns the element with which a shortest plan begins, and its length, where all is not settled.
func (a asker) first() (int, int) {
	first, least := 0, api.MaxFaces+1
	for x := range api.MaxFaces {
		if a.rest>>x&1 == 0 {
			continue
		}
		need := 1 + max(a.after(family.without, x).need(), a.after(family.link, x).need())
		if need < least {
			first, least = x, need
		}
	}
	return first, least
}

// write appends to p the Nodes of a shortest plan, and returns the index of the first one.
func (a asker) write(p []Node) ([]Node, int) {
	if a.isSettled() {
		return p, end
	}
	x, _ := a.first()
	at := len(p)
	p = append(p, Node{Ask: x})
	p, out := a.after(family.without, x).write(p)
	p, in := a.after(family.link, x).write(p)
	p[at].Out, p[at].In = out, in
	return p, at
}
