package mint

import (
	"math"
	"strings"
	"testing"

	"planchet/api"
)

// next returns a number from 0 to below n, each time another one.
func next(r *uint64, n int) int {
	*r = *r*6364136223846793005 + 1442695040888963407
	return int(*r >> 33 % uint64(n))
}

func wantMark(t *testing.T, c *Copy, want int) {
	t.Helper()
	if mark, e := c.Mark(); mark != want || e != api.OK {
		t.Errorf("Mark: %v %v, want %v", mark, e, want)
	}
}

func wantEntry(t *testing.T, c *Copy, i, mark int, line string) {
	t.Helper()
	if m, l, e := c.Get(i); m != mark || l != line || e != api.OK {
		t.Errorf("Get(%v): %v %q %v, want %v %q", i, m, l, e, mark, line)
	}
}

func wantNoEntry(t *testing.T, c *Copy, i int, want api.Errno) {
	t.Helper()
	if m, l, e := c.Get(i); m != 0 || l != "" || e != want {
		t.Errorf("Get(%v): %v %q %v, want 0, nothing and %v", i, m, l, e, want)
	}
}

// want holds the error of a call against what it should be.
func want(t *testing.T, got, want api.Errno) {
	t.Helper()
	if got != want {
		t.Errorf("error %v, want %v", got, want)
	}
}

// P10.1: a new copy is in reach, has the mark 0, and no entry.
func TestNewCopy(t *testing.T) {
	c := NewCopy()
	wantMark(t, c, 0)
	for i := range 200 {
		wantNoEntry(t, c, i, api.ErrNone)
	}
	d := NewCopy()
	want(t, c.Put(0, 1, "medal gold"), api.OK)
	wantMark(t, d, 0)
	wantNoEntry(t, d, 0, api.ErrNone)
}

// P10.1: a promise must be above the mark, a Put not below it; both set it.
func TestCopyMarks(t *testing.T) {
	c := NewCopy()
	want(t, c.Promise(0), api.ErrState)
	want(t, c.Put(3, 0, "a"), api.OK)
	wantMark(t, c, 0)
	want(t, c.Promise(4), api.OK)
	wantMark(t, c, 4)
	want(t, c.Promise(4), api.ErrState)
	want(t, c.Promise(3), api.ErrState)
	want(t, c.Put(3, 3, "b"), api.ErrState)
	wantEntry(t, c, 3, 0, "a")
	want(t, c.Put(3, 4, "c"), api.OK)
	wantEntry(t, c, 3, 4, "c")
	want(t, c.Put(5, 7, "d"), api.OK)
	wantMark(t, c, 7)
	want(t, c.Put(3, 6, "e"), api.ErrState)
	wantEntry(t, c, 3, 4, "c")
	wantEntry(t, c, 5, 7, "d")
	wantNoEntry(t, c, 4, api.ErrNone)
	want(t, c.Promise(1_000_000_000), api.OK)
	want(t, c.Put(5, 999_999_999, "f"), api.ErrState)
	want(t, c.Put(5, 1_000_000_000, "g"), api.OK)
	wantEntry(t, c, 5, 1_000_000_000, "g")
	want(t, c.Promise(1_000_000_000), api.ErrState)
}

// P10.1: an entry may be any string of at most 60 bytes, and its index the first or the last one.
func TestCopyLines(t *testing.T) {
	c := NewCopy()
	for i, line := range []string{"", " ", "no change", "\n\x00\xff", strings.Repeat("x", 60), strings.Repeat("é", 30)} {
		want(t, c.Put(199-i, 2, line), api.OK)
		wantEntry(t, c, 199-i, 2, line)
	}
	want(t, c.Put(0, 2, "first"), api.OK)
	wantEntry(t, c, 0, 2, "first")
	wantEntry(t, c, 199, 2, "")
}

// P10.1: what are no marks, indices and lines is told before a mark that is too small, and changes nothing.
func TestCopyArguments(t *testing.T) {
	c := NewCopy()
	want(t, c.Put(1, 9, "kept"), api.OK)
	for _, mark := range []int{-1, 1_000_000_001, math.MinInt, math.MaxInt} {
		want(t, c.Promise(mark), api.ErrArg)
		want(t, c.Put(1, mark, "x"), api.ErrArg)
	}
	for _, i := range []int{-1, 200, math.MinInt, math.MaxInt} {
		want(t, c.Put(i, 9, "x"), api.ErrArg)
		want(t, c.Put(i, 0, "x"), api.ErrArg)
		wantNoEntry(t, c, i, api.ErrArg)
	}
	for _, line := range []string{strings.Repeat("x", 61), strings.Repeat("é", 31), strings.Repeat("x", 1<<16)} {
		want(t, c.Put(1, 9, line), api.ErrArg)
		want(t, c.Put(1, 0, line), api.ErrArg)
	}
	wantMark(t, c, 9)
	wantEntry(t, c, 1, 9, "kept")
}

// P10.1: a copy out of reach tells just that, also of arguments that are not valid; when it comes again all is as before.
func TestCopyOutOfReach(t *testing.T) {
	c := NewCopy()
	want(t, c.Put(1, 9, "kept"), api.OK)
	c.Reach(false)
	c.Reach(false)
	want(t, c.Promise(10), api.ErrPower)
	want(t, c.Promise(-1), api.ErrPower)
	want(t, c.Promise(3), api.ErrPower)
	want(t, c.Put(1, 10, "x"), api.ErrPower)
	want(t, c.Put(-1, 3, "x"), api.ErrPower)
	wantNoEntry(t, c, 1, api.ErrPower)
	wantNoEntry(t, c, 0, api.ErrPower)
	wantNoEntry(t, c, 200, api.ErrPower)
	if mark, e := c.Mark(); mark != 0 || e != api.ErrPower {
		t.Error(mark, e)
	}
	c.Reach(true)
	wantMark(t, c, 9)
	wantEntry(t, c, 1, 9, "kept")
	c.Reach(true)
	wantMark(t, c, 9)
}

// P10.1: of a copy that NewCopy did not return every method returns ErrNil before all else, and nothing happens.
func TestUnmadeCopy(t *testing.T) {
	of := *NewCopy()
	for _, c := range []*Copy{nil, {}, new(Copy), &of} {
		for _, on := range []bool{true, false} {
			c.Reach(on)
			want(t, c.Promise(1), api.ErrNil)
			want(t, c.Promise(-1), api.ErrNil)
			want(t, c.Put(0, 1, "x"), api.ErrNil)
			want(t, c.Put(-1, 1, "x"), api.ErrNil)
			wantNoEntry(t, c, 0, api.ErrNil)
			wantNoEntry(t, c, -1, api.ErrNil)
			if mark, e := c.Mark(); mark != 0 || e != api.ErrNil {
				t.Error(mark, e)
			}
		}
	}
}

// paper is a copy as the chapter tells it, each Put on a line of its own.
type paper struct {
	away bool
	mark int
	puts []put
}

type put struct {
	i, mark int
	line    string
}

func (p *paper) entry(i int) (put, bool) {
	for at := len(p.puts) - 1; at >= 0; at-- {
		if p.puts[at].i == i {
			return p.puts[at], true
		}
	}
	return put{}, false
}

func (p *paper) promise(mark int) api.Errno {
	switch {
	case p.away:
		return api.ErrPower
	case mark < 0 || mark > 1e9:
		return api.ErrArg
	case mark <= p.mark:
		return api.ErrState
	}
	p.mark = mark
	return api.OK
}

func (p *paper) write(x put) api.Errno {
	switch {
	case p.away:
		return api.ErrPower
	case x.i < 0 || x.i > 199 || x.mark < 0 || x.mark > 1e9 || len(x.line) > 60:
		return api.ErrArg
	case x.mark < p.mark:
		return api.ErrState
	}
	p.puts = append(p.puts, x)
	p.mark = x.mark
	return api.OK
}

// P10.1: whatever is done with a copy, and in whatever order, it is what the chapter says.
func TestCopyAnyOrder(t *testing.T) {
	r := uint64(1)
	for range 200 {
		c, p := NewCopy(), &paper{}
		for range 60 {
			i, mark := next(&r, 8)-1, p.mark+next(&r, 5)-2
			line := strings.Repeat("z", next(&r, 2)*next(&r, 62))
			switch next(&r, 6) {
			case 0:
				p.away = next(&r, 3) == 0
				c.Reach(!p.away)
			case 1:
				want(t, c.Promise(mark), p.promise(mark))
			case 2, 3:
				want(t, c.Put(i, mark, line), p.write(put{i, mark, line}))
			}
			if p.away {
				wantNoEntry(t, c, i, api.ErrPower)
				continue
			}
			wantMark(t, c, p.mark)
			if i < 0 {
				wantNoEntry(t, c, i, api.ErrArg)
			} else if x, ok := p.entry(i); ok {
				wantEntry(t, c, i, x.mark, x.line)
			} else {
				wantNoEntry(t, c, i, api.ErrNone)
			}
		}
	}
}
