package mint

import (
	"slices"
	"strconv"
	"strings"
	"testing"

	"planchet/api"
)

// pick returns one of some words.
func pick(r *uint64, words ...string) string { return words[next(r, len(words))] }

// someName returns one of more names than there may be of medals or players.
func someName(r *uint64) string {
	return pick(r, "ada", "bob", "cid", "dan", "eve", "fay", "guy", "hal", "ida")
}

// someChange returns any change, or something near one.
func someChange(r *uint64) string {
	switch next(r, 9) {
	case 0, 1:
		return "medal " + someName(r)
	case 2:
		return "above " + someName(r) + " " + someName(r)
	case 3, 4:
		return "player " + someName(r)
	case 5:
		return "beat " + someName(r) + " " + someName(r)
	case 6:
		return text("batch", next(r, 6), next(r, 5), next(r, 5), next(r, 8))
	case 7:
		return text("pan", next(r, 3), next(r, 2), next(r, 2), next(r, 2))
	}
	return text("bet", next(r, 8), next(r, 14))
}

// someQuestion returns any question, or something near one.
func someQuestion(r *uint64) string {
	n := strconv.Itoa(next(r, 9))
	return pick(r, "roll", "ways", "order", "kings", "need", "bound",
		"chance "+someName(r)+" "+someName(r), "price "+n, "liar "+n+" 1", "liar 9 "+n, "pegs 2 "+n, "pegs "+n+" 2",
		"ring "+n, "talk "+n, "learn "+n, "evade "+n, "mint", "", "medal tin", "batch 1 1 1 1", "bet 1 "+n)
}

func begins(l, with []string) bool {
	return len(l) >= len(with) && slices.Equal(l[:len(with)], with)
}

// crowd is what has happened to some copies that mints alone write on.
type crowd struct {
	copies []*Copy
	mints  []*Mint
	kept   []string // the Journal of the mint that acknowledged a change last, just after it
	done   []string // all changes that were acknowledged
}

// reach takes any copies out of reach, mostly fewer than half of them.
func (c *crowd) reach(r *uint64) {
	for _, x := range c.copies {
		x.Reach(next(r, 3) > 0)
	}
}

// open opens a mint, if it can be, which must have all that was acknowledged.
func (c *crowd) open(t *testing.T) {
	m, e := Open(c.copies)
	if e != api.OK {
		want(t, e, api.ErrPower)
		return
	}
	c.mints = append(c.mints, m)
	l := m.Journal()
	if !begins(l, c.kept) {
		t.Errorf("Journal %q does not begin with %q", l, c.kept)
	}
	for _, s := range c.done {
		i := slices.Index(l, s)
		if i < 0 {
			t.Fatalf("Journal %q has not all of %q", m.Journal(), c.done)
		}
		l = l[i+1:]
	}
}

// do has one of the last mints do a change; of all mints just the last one may acknowledge it.
func (c *crowd) do(t *testing.T, r *uint64, s string) {
	if len(c.mints) == 0 {
		return
	}
	k := max(0, len(c.mints)-1-next(r, 4)*next(r, 2))
	m := c.mints[k]
	_, own, f := m.now.after(s)
	reply, e := m.Do(s)
	if e == api.OK {
		if k != len(c.mints)-1 || reply != own {
			t.Errorf("mint %v of %v has done %q: %q", k, len(c.mints), s, reply)
		}
		c.done, c.kept = append(c.done, s), m.Journal()
	} else if k != len(c.mints)-1 && f == api.OK && e != api.ErrState && e != api.ErrPower {
		t.Errorf("an older mint, of %q: %v", s, e)
	}
}

// P10.5, P10.6: copies come and go, and mints are opened and do changes, in any order: what was acknowledged is at the beginning of every later Journal, and none but the last mint acknowledges anything.
func TestKeeping(t *testing.T) {
	r := uint64(11)
	acknowledged, out, gone := 0, 0, 0
	for round := range 300 {
		c := &crowd{copies: copies(3 + round%2*2)}
		for range 80 {
			switch next(&r, 8) {
			case 0, 1:
				c.reach(&r)
			case 2:
				c.open(t)
			default:
				c.do(t, &r, someChange(&r))
			}
		}
		acknowledged += len(c.done)
		for _, m := range c.mints {
			if m.Out() {
				out++
			}
		}
		gone += len(c.mints)
	}
	// The test tells something only if all of this happens often.
	if acknowledged < 3000 || out < 300 || gone < 1000 {
		t.Error(acknowledged, out, gone)
	}
}

// P10.6: an older mint never acknowledges a change any more, whichever copies come into reach, be the newer one opened on any most of them.
func TestOneAtATime(t *testing.T) {
	for _, n := range []int{3, 5} {
		for first := range 1 << n {
			for second := range 1 << n {
				l := copies(n)
				m := open(t, l)
				setReach(l, first)
				newer, e := Open(l)
				setReach(l, second)
				_, f := m.Do("medal gold")
				if e == api.OK && f != api.ErrState && f != api.ErrPower {
					t.Errorf("%b %b: %v", first, second, f)
				}
				if e != api.OK && (f == api.OK) != enough(n, second) {
					t.Errorf("%b %b: %v %v", first, second, e, f)
				}
				if _, g := newer.Do("medal iron"); e == api.OK && (g == api.OK) != enough(n, second) {
					t.Errorf("%b %b: %v", first, second, g)
				}
			}
		}
	}
}

func setReach(l []*Copy, on int) {
	for i, c := range l {
		c.Reach(on>>i&1 != 0)
	}
}

// enough reports whether a set of n copies has most of them.
func enough(n, set int) bool { return 2*strings.Count(strconv.FormatInt(int64(set), 2), "1") > n }

// P10.7: State is that of a new mint that does the Journal, also of a mint that was opened with books, and of one that is out.
func TestReplay(t *testing.T) {
	r := uint64(13)
	for range 60 {
		l := copies(3)
		m := open(t, l)
		for range 40 {
			m.Do(someChange(&r))
		}
		wantSame(t, m, opened(t, m.Journal()...))
		later := open(t, l)
		wantSame(t, m, later)
		for range 10 {
			later.Do(someChange(&r))
		}
		for !m.Out() {
			m.Do(text("batch", next(&r, 5), 0, 0, 0))
		}
		wantSame(t, m, opened(t, m.Journal()...))
		wantSame(t, later, opened(t, later.Journal()...))
	}
}

// P10.7: a Journal of 200 lines.
func TestReplayLong(t *testing.T) {
	r := uint64(17)
	m := opened(t)
	for len(m.Journal()) < 200 {
		m.Do(someChange(&r))
	}
	wantRefused(t, m, "batch 1 1 1 1", api.ErrFull)
	wantSame(t, m, opened(t, m.Journal()...))
}

// P10.8, P10.9, P10.10, P10.13: after any changes the roll has each medal before those above it, each player of order beats the next one, there is a price for each event, and chances sum to 1.
func TestAfterAnyChanges(t *testing.T) {
	r := uint64(19)
	for range 60 {
		m := opened(t)
		for range 60 {
			m.Do(someChange(&r))
		}
		roll, _ := m.Ask("roll")
		players, _ := m.Ask("order")
		names, order := strings.Fields(roll)[1:], strings.Fields(players)[1:]
		for _, s := range m.Journal() {
			if w := strings.Fields(s); w[0] == "above" && slices.Index(names, w[1]) < slices.Index(names, w[2]) {
				t.Errorf("%q after %q", roll, s)
			}
		}
		for i := 1; i < len(order); i++ {
			// Who beats someone already can't do so; who does not can.
			wantRefused(t, m, "beat "+order[i-1]+" "+order[i], api.ErrState)
		}
		for e := 1; e <= 6; e++ {
			if reply, f := m.Ask(text("price", e)); len(strings.Fields(reply)) < 2 || f != api.OK {
				t.Error(e, reply, f, m.Journal())
			}
		}
		for _, x := range names {
			for _, y := range names {
				if x != y {
					wantOne(t, m, x, y)
				}
			}
		}
	}
}

// wantOne adds the chances of x before y and of y before x.
func wantOne(t *testing.T, m *Mint, x, y string) {
	t.Helper()
	a, b := chanceOf(t, m, x, y), chanceOf(t, m, y, x)
	if a[1] < 1 || a[0] < 0 || b[1] != a[1] || a[0]+b[0] != a[1] {
		t.Error(x, y, a, b)
	}
}

func chanceOf(t *testing.T, m *Mint, x, y string) [2]int {
	t.Helper()
	reply, e := m.Ask("chance " + x + " " + y)
	num, den, ok := strings.Cut(strings.TrimPrefix(reply, "chance "), "/")
	a, f := strconv.Atoi(num)
	b, g := strconv.Atoi(den)
	if !ok || e != api.OK || f != nil || g != nil {
		t.Error(reply, e)
	}
	return [2]int{a, b}
}

// needOf returns the need, or one that is greater than all where there is none.
func needOf(t *testing.T, m *Mint) int {
	t.Helper()
	reply, e := m.Ask("need")
	if e == api.ErrNone {
		return 99
	}
	n, f := strconv.Atoi(strings.TrimPrefix(reply, "need "))
	if e != api.OK || f != nil {
		t.Error(reply, e)
	}
	return n
}

// P10.11: no pan makes the need greater: all pans for all batches of few coins, and any ones of more.
func TestPansHelp(t *testing.T) {
	r := uint64(23)
	m := opened(t)
	check := func(batch, pan string) {
		if len(m.Journal()) > 198 {
			m = opened(t)
		}
		wantDone(t, m, batch)
		before := needOf(t, m)
		if _, e := m.Do(pan); e == api.OK && needOf(t, m) > before {
			t.Errorf("%v: need %v, after %v: %v", batch, before, pan, needOf(t, m))
		}
	}
	for i := range 4 * 4 * 4 * 5 {
		b, h, l, g := i%4, i/4%4, i/16%4, i/64*2
		for j := range (b + 1) * (h + 1) * (l + 1) * 2 {
			check(text("batch", b, h, l, g), text("pan", j%(b+1), j/(b+1)%(h+1), j/(b+1)/(h+1)%(l+1), j/(b+1)/(h+1)/(l+1)))
		}
	}
	for range 600 {
		b := next(&r, 14)
		h := next(&r, 14-b)
		l := next(&r, 14-b-h)
		check(text("batch", b, h, l, next(&r, 14)), text("pan", next(&r, b+1), next(&r, h+1), next(&r, l+1), next(&r, 3)))
	}
}

// P10.12: no question changes State, the Journal, or whether the mint is out; the same question has the same reply.
func TestAskingChangesNothing(t *testing.T) {
	r := uint64(29)
	for range 20 {
		l := copies(3)
		m := open(t, l)
		for range 30 {
			m.Do(someChange(&r))
		}
		state, journal := m.State(), m.Journal()
		var marks [3]int
		for i, c := range l {
			marks[i], _ = c.Mark()
		}
		for range 60 {
			q := someQuestion(&r)
			reply, e := m.Ask(q)
			again, f := m.Ask(q)
			if reply != again || e != f || (e != api.OK) != (reply == "") {
				t.Errorf("%q: %q %v and %q %v", q, reply, e, again, f)
			}
			if m.State() != state || m.Out() {
				t.Fatalf("%q has changed the state", q)
			}
		}
		wantJournal(t, m, journal...)
		for i, c := range l {
			wantMark(t, c, marks[i])
			wantNoEntry(t, c, len(journal), api.ErrNone)
		}
	}
}
