package mint

import (
	"slices"
	"strings"
	"testing"

	"planchet/api"
)

// desk is a mint as the chapter tells it, which strikes medals and does nothing else.
type desk struct {
	papers []*paper
	mark   int
	lines  []string
	out    bool
}

func (d *desk) most() bool {
	n := 0
	for _, p := range d.papers {
		if !p.away {
			n++
		}
	}
	return n >= len(d.papers)/2+1
}

// taken returns whether a medal's line has no error behind others, and which one.
func taken(lines []string, line string) api.Errno {
	name, ok := strings.CutPrefix(line, "medal ")
	switch {
	case !ok || len(name) != 1:
		return api.ErrForm
	case slices.Contains(lines, line):
		return api.ErrState
	case len(lines) == 6:
		return api.ErrFull
	}
	return api.OK
}

func (d *desk) write(x put) int {
	n := 0
	for _, p := range d.papers {
		if p.write(x) == api.OK {
			n++
		}
	}
	return n
}

// read returns the books.
func (d *desk) read() []string {
	var lines []string
	last := put{}
	for i := range 200 {
		best := put{mark: -1}
		for _, p := range d.papers {
			if x, ok := p.entry(i); ok && !p.away && x.mark > best.mark {
				best = x
			}
		}
		if best.mark < last.mark || taken(lines, best.line) != api.OK {
			break
		}
		lines = append(lines, best.line)
		last = best
	}
	return lines
}

func openDesk(papers []*paper) (*desk, api.Errno) {
	d := &desk{papers: papers}
	if !d.most() {
		return nil, api.ErrPower
	}
	for _, p := range papers {
		if !p.away {
			d.mark = max(d.mark, p.mark)
		}
	}
	if d.mark == 1e9 {
		return nil, api.ErrFull
	}
	d.mark++
	for _, p := range papers {
		p.promise(d.mark)
	}
	d.lines = d.read()
	for i, line := range d.lines {
		d.write(put{i, d.mark, line})
	}
	return d, api.OK
}

func (d *desk) do(line string) api.Errno {
	if d.out {
		return api.ErrState
	}
	if e := taken(d.lines, line); e != api.OK {
		return e
	}
	if !d.most() {
		return api.ErrPower
	}
	if d.write(put{len(d.lines), d.mark, line}) <= len(d.papers)/2 {
		d.out = true
		return api.ErrState
	}
	d.lines = append(d.lines, line)
	return api.OK
}

// wantPapers holds all entries of copies against those on paper.
func wantPapers(t *testing.T, l []*Copy, papers []*paper) {
	t.Helper()
	for i, p := range papers {
		if p.away {
			continue
		}
		wantMark(t, l[i], p.mark)
		for at := range 9 {
			if x, ok := p.entry(at); ok {
				wantEntry(t, l[i], at, x.mark, x.line)
			} else {
				wantNoEntry(t, l[i], at, api.ErrNone)
			}
		}
	}
}

// P10.1, P10.2, P10.3, P10.4: whatever is done with copies and several mints on them, also by others that promise and put, in whatever order, all copies and all mints are as the chapter says.
func TestBooksAnyOrder(t *testing.T) {
	r := uint64(9)
	for round := range 400 {
		l := copies(3 + round%2*2)
		var papers []*paper
		for range l {
			papers = append(papers, &paper{})
		}
		var mints []*Mint
		var desks []*desk
		for range 40 {
			i := next(&r, len(l))
			line := []string{"medal a", "medal b", "medal c", "medal d", "medal e", "medal f", "medal g", "roll", ""}[next(&r, 9)]
			switch next(&r, 12) {
			case 0, 1, 2:
				papers[i].away = next(&r, 3) == 0
				l[i].Reach(!papers[i].away)
			case 3:
				mark := papers[i].mark + next(&r, 3)
				want(t, l[i].Promise(mark), papers[i].promise(mark))
			case 4:
				x := put{next(&r, 8), papers[i].mark + next(&r, 3), line}
				want(t, l[i].Put(x.i, x.mark, x.line), papers[i].write(x))
			case 5, 6:
				m, e := Open(l)
				d, f := openDesk(papers)
				want(t, e, f)
				if m != nil && d != nil {
					mints, desks = append(mints, m), append(desks, d)
				}
			default:
				if len(mints) > 0 {
					k := max(0, len(mints)-1-next(&r, 3))
					_, e := mints[k].Do(line)
					want(t, e, desks[k].do(line))
				}
			}
			wantPapers(t, l, papers)
			for k, m := range mints {
				wantJournal(t, m, desks[k].lines...)
				if m.Out() != desks[k].out {
					t.Error("Out", m.Out())
				}
			}
		}
	}
}
