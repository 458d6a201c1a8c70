package mint

import "planchet/api"

const (
	maxLines = 200
	maxMark  = 1_000_000_000
	maxBytes = 60
)

// entry is a line with the mark with which it was put.
type entry struct {
	mark int
	line string
}

// Copy is a copy of books.
type Copy struct {
	self    *Copy // itself, if NewCopy made it: so nothing else passes for a copy
	away    bool
	mark    int
	entries map[int]entry
}

// NewCopy returns a copy without entries.
func NewCopy() *Copy {
	c := &Copy{entries: map[int]entry{}}
	c.self = c
	return c
}

func (c *Copy) made() bool { return c != nil && c.self == c }

// found returns the error of a copy that is unmade or out of reach.
func (c *Copy) found() api.Errno {
	if !c.made() {
		return api.ErrNil
	}
	if c.away {
		return api.ErrPower
	}
	return api.OK
}

// Reach brings a copy into reach, or out of it.
func (c *Copy) Reach(on bool) {
	if c.made() {
		c.away = !on
	}
}

// Promise raises the mark.
func (c *Copy) Promise(mark int) api.Errno {
	if e := c.found(); e != api.OK {
		return e
	}
	if !isMark(mark) {
		return api.ErrArg
	}
	if mark <= c.mark {
		return api.ErrState
	}
	c.mark = mark
	return api.OK
}

// Put stores an entry.
func (c *Copy) Put(i, mark int, line string) api.Errno {
	if e := c.found(); e != api.OK {
		return e
	}
	if !isIndex(i) || !isMark(mark) || len(line) > maxBytes {
		return api.ErrArg
	}
	if mark < c.mark {
		return api.ErrState
	}
	c.entries[i] = entry{mark, line}
	c.mark = mark
	return api.OK
}

// Get returns an entry.
func (c *Copy) Get(i int) (mark int, line string, e api.Errno) {
	if e := c.found(); e != api.OK {
		return 0, "", e
	}
	if !isIndex(i) {
		return 0, "", api.ErrArg
	}
	x, ok := c.entries[i]
	if !ok {
		return 0, "", api.ErrNone
	}
	return x.mark, x.line, api.OK
}

// Mark returns the mark.
func (c *Copy) Mark() (int, api.Errno) {
	if e := c.found(); e != api.OK {
		return 0, e
	}
	return c.mark, api.OK
}

func isIndex(i int) bool { return i >= 0 && i < maxLines }

func isMark(mark int) bool { return mark >= 0 && mark <= maxMark }
