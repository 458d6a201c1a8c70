package mint

import (
	"slices"
	"strings"
	"testing"

	"planchet/api"
)

func wantNoMint(t *testing.T, l []*Copy, want api.Errno) {
	t.Helper()
	if m, e := Open(l); m != nil || e != want {
		t.Errorf("Open: %v %v, want error %v", m, e, want)
	}
}

func wantJournal(t *testing.T, m *Mint, lines ...string) {
	t.Helper()
	if got := m.Journal(); !slices.Equal(got, lines) {
		t.Errorf("Journal: %q, want %q", got, lines)
	}
}

// reach brings just these copies into reach.
func reach(l []*Copy, on ...int) {
	for i, c := range l {
		c.Reach(slices.Contains(on, i))
	}
}

// wantBooks says that the copy has just these lines, all with the mark, which is its own.
func wantBooks(t *testing.T, c *Copy, mark int, lines ...string) {
	t.Helper()
	c.Reach(true)
	wantMark(t, c, mark)
	for i, line := range lines {
		wantEntry(t, c, i, mark, line)
	}
	wantNoEntry(t, c, len(lines), api.ErrNone)
}

// write puts a line on a copy.
func write(t *testing.T, c *Copy, i, mark int, line string) {
	t.Helper()
	want(t, c.Put(i, mark, line), api.OK)
}

// P10.2: 3 or 5 different copies; that one is nil or unmade is told before.
func TestOpenArguments(t *testing.T) {
	for n := range 8 {
		l := copies(n)
		if n == 3 || n == 5 {
			open(t, l)
			l[n-1] = l[0]
		}
		wantNoMint(t, l, api.ErrArg)
		reach(l)
		wantNoMint(t, l, api.ErrArg)
	}
	wantNoMint(t, nil, api.ErrArg)
	l := copies(5)
	l[3] = l[2]
	wantNoMint(t, l, api.ErrArg)
	of := *NewCopy()
	for n := range 7 {
		for _, c := range []*Copy{nil, {}, &of} {
			for i := range n {
				l := copies(n)
				l[i] = c
				reach(l)
				wantNoMint(t, l, api.ErrNil)
			}
		}
	}
	c := NewCopy()
	wantNoMint(t, []*Copy{c, c, nil}, api.ErrNil)
	wantNoMint(t, slices.Repeat([]*Copy{c}, 1<<16), api.ErrArg)
}

// P10.2: most copies must be in reach; else no mark changes.
func TestOpenOutOfReach(t *testing.T) {
	for _, n := range []int{3, 5} {
		for on := range 1 << n {
			l := copies(n)
			count := 0
			for i, c := range l {
				c.Reach(on>>i&1 != 0)
				count += on >> i & 1
			}
			if 2*count < n {
				wantNoMint(t, l, api.ErrPower)
			} else {
				open(t, l)
			}
			for i, c := range l {
				c.Reach(true)
				wantMark(t, c, map[bool]int{true: on >> i & 1, false: 0}[2*count > n])
			}
		}
	}
}

// P10.2: the mark is one more than the greatest one in reach, as long as it is not 10^9, and all copies in reach promise it.
func TestOpenMarks(t *testing.T) {
	l := copies(5)
	for i, mark := range []int{4, 9, 2, 30, 0} {
		if mark > 0 {
			want(t, l[i].Promise(mark), api.OK)
		}
	}
	reach(l, 0, 1, 2, 4)
	open(t, l)
	reach(l, 0, 1, 2, 3, 4)
	for i, mark := range []int{10, 10, 10, 30, 10} {
		wantMark(t, l[i], mark)
	}
	want(t, l[3].Promise(1e9), api.OK)
	wantNoMint(t, l, api.ErrFull)
	wantMark(t, l[0], 10)
	reach(l, 0, 1)
	wantNoMint(t, l, api.ErrPower)
	reach(l, 0, 3)
	wantNoMint(t, l, api.ErrPower)
	reach(l, 0, 1, 2)
	want(t, l[2].Promise(1e9-1), api.OK)
	m := open(t, l)
	wantMark(t, l[0], 1e9)
	wantDone(t, m, "medal gold")
	wantBooks(t, l[1], 1e9, "medal gold")
	wantNoMint(t, l, api.ErrFull)
	wantDone(t, m, "medal iron")
	wantJournal(t, m, "medal gold", "medal iron")
}

// P10.2: of the entries i those with the greatest mark are the books, whichever copy has them; all copies in reach get all of them with the new mark.
func TestOpenReadsTheGreatestMarks(t *testing.T) {
	l := copies(3)
	write(t, l[0], 0, 1, "medal gold")
	write(t, l[1], 0, 3, "medal iron")
	write(t, l[2], 0, 2, "medal tin")
	write(t, l[0], 1, 4, "medal lead")
	write(t, l[2], 1, 3, "medal zinc")
	write(t, l[2], 2, 5, "above lead iron")
	m := open(t, l)
	wantJournal(t, m, "medal iron", "medal lead", "above lead iron")
	wantReply(t, m, "roll", "roll iron lead")
	for _, c := range l {
		wantBooks(t, c, 6, "medal iron", "medal lead", "above lead iron")
	}
}

// P10.2: of equal marks the line of the first copy counts, in the order in which they are given.
func TestOpenReadsTheFirstOfEqualMarks(t *testing.T) {
	for _, order := range [][]int{{0, 1, 2}, {0, 2, 1}, {1, 0, 2}, {1, 2, 0}, {2, 0, 1}, {2, 1, 0}} {
		lines := []string{"medal gold", "medal iron", "medal tin"}
		l := copies(3)
		for i, line := range lines {
			write(t, l[i], 0, 7, line)
		}
		m := open(t, []*Copy{l[order[0]], l[order[1]], l[order[2]]})
		wantJournal(t, m, lines[order[0]])
	}
}

// P10.2: copies out of reach are not read, and get nothing.
func TestOpenLeavesOthersAlone(t *testing.T) {
	l := copies(5)
	write(t, l[1], 0, 8, "medal gold")
	write(t, l[2], 0, 3, "medal iron")
	write(t, l[4], 0, 2, "medal tin")
	write(t, l[4], 1, 2, "medal lead")
	reach(l, 0, 2, 4)
	m := open(t, l)
	wantJournal(t, m, "medal iron")
	wantBooks(t, l[1], 8, "medal gold")
	wantBooks(t, l[3], 0)
	wantBooks(t, l[0], 4, "medal iron")
	wantBooks(t, l[2], 4, "medal iron")
	wantMark(t, l[4], 4)
	wantEntry(t, l[4], 0, 4, "medal iron")
	wantEntry(t, l[4], 1, 2, "medal lead")
}

// P10.2: the books go on with a greater mark, or the same one. They end where there is no entry, where the mark is less than the one before it, and where the line is no change or one with an error; what comes behind stays where it was.
func TestOpenEndsOfBooks(t *testing.T) {
	for _, x := range []struct {
		mark int
		line string
		in   bool
	}{
		{5, "medal tin", true}, {6, "medal tin", true}, {4, "medal tin", false}, {0, "medal tin", false},
		{5, "medal gold", false}, {5, "above gold tin", false}, {5, "above gold gold", false}, {5, "bet 7 0", false},
		{5, "roll", false}, {5, "", false}, {5, "medal  tin", false}, {5, "medal tin ", false}, {5, "medal Tin", false}, {5, "medal", false}, {5, "medal \xff", false},
	} {
		l := copies(3)
		write(t, l[0], 0, 5, "medal gold")
		write(t, l[1], 1, x.mark, x.line)
		write(t, l[2], 2, 6, "medal lead")
		m := open(t, l)
		if x.in {
			wantJournal(t, m, "medal gold", "medal tin", "medal lead")
			wantReply(t, m, "roll", "roll gold tin lead")
			continue
		}
		wantJournal(t, m, "medal gold")
		wantReply(t, m, "roll", "roll gold")
		wantEntry(t, l[1], 0, 7, "medal gold")
		wantEntry(t, l[1], 1, x.mark, x.line)
		wantEntry(t, l[2], 2, 6, "medal lead")
		wantNoEntry(t, l[0], 1, api.ErrNone)
	}
	l := copies(3)
	write(t, l[0], 0, 1, "medal gold")
	write(t, l[0], 2, 1, "medal iron")
	wantJournal(t, open(t, l), "medal gold")
	l = copies(3)
	write(t, l[0], 1, 1, "medal gold")
	wantJournal(t, open(t, l))
}

// P10.2: an entry 0 may have the mark 0; the books may have 200 lines.
func TestOpenLongBooks(t *testing.T) {
	l := copies(3)
	for i := range 200 {
		write(t, l[i%3], i, 0, text("batch", i%14, 0, 0, 0))
	}
	m := open(t, l)
	if n := len(m.Journal()); n != 200 {
		t.Error(n)
	}
	wantReply(t, m, "bound", "bound 2")
	for _, c := range l {
		for i := range 200 {
			wantEntry(t, c, i, 1, text("batch", i%14, 0, 0, 0))
		}
	}
	wantRefused(t, m, "batch 1 0 0 0", api.ErrFull)
}

// P10.2: a mint keeps its copies, whatever happens to the slice, which it leaves as it is.
func TestOpenKeepsNoSlice(t *testing.T) {
	l := copies(3)
	given := slices.Clone(l)
	m := open(t, given)
	if !slices.Equal(l, given) {
		t.Error("Open has changed its argument")
	}
	clear(given)
	wantDone(t, m, "medal gold")
	wantBooks(t, l[2], 1, "medal gold")
}

// P10.3: a change is put on all copies in reach, with the mark of the mint.
func TestDo(t *testing.T) {
	l := copies(5)
	m := open(t, l)
	wantDone(t, m, "medal gold")
	reach(l, 0, 2, 4)
	wantDone(t, m, "medal iron")
	reach(l, 0, 1, 2, 3)
	wantDone(t, m, "above gold iron")
	reach(l, 0, 1, 2, 3, 4)
	wantBooks(t, l[0], 1, "medal gold", "medal iron", "above gold iron")
	wantBooks(t, l[2], 1, "medal gold", "medal iron", "above gold iron")
	wantBooks(t, l[1], 1, "medal gold")
	wantEntry(t, l[1], 2, 1, "above gold iron")
	wantEntry(t, l[3], 2, 1, "above gold iron")
	wantBooks(t, l[4], 1, "medal gold", "medal iron")
	wantJournal(t, m, "medal gold", "medal iron", "above gold iron")
}

// P10.3: with too few copies nothing is put, and the mint is not out: when they come again it goes on.
func TestDoOutOfReach(t *testing.T) {
	l := copies(3)
	m := open(t, l)
	reach(l, 1)
	wantRefused(t, m, "medal gold", api.ErrPower)
	wantReply(t, m, "roll", "roll")
	reach(l)
	wantRefused(t, m, "medal gold", api.ErrPower)
	wantRefused(t, m, "medal Gold", api.ErrForm)
	wantRefused(t, m, "roll", api.ErrForm)
	wantRefused(t, m, "above gold iron", api.ErrNone)
	wantRefused(t, m, "bet 7 7", api.ErrArg)
	for _, c := range l {
		wantBooks(t, c, 1)
	}
	wantDone(t, m, "medal gold")
	reach(l, 2)
	wantRefused(t, m, "medal gold", api.ErrState)
	wantRefused(t, m, "medal iron", api.ErrPower)
	if m.Out() {
		t.Error("out")
	}
}

// P10.3: of no change that is refused since copies are out of reach anything stays.
func TestRefusedLeavesNothing(t *testing.T) {
	for _, s := range changeLines {
		l := copies(3)
		m := open(t, l)
		// Three of each leave room behind them: whoever writes there, or over them, is found out.
		for _, line := range []string{"medal gold", "medal iron", "medal lead", "player ada", "player bob", "player dan", "batch 5 0 0 5", "bet 1 4", "bet 2 3", "bet 3 7"} {
			wantDone(t, m, line)
		}
		if s == "pan 0 0 0 0" {
			s = "pan 1 0 0 0"
		}
		if s == "bet 4 5" {
			s = "bet 6 8"
		}
		reach(l, 2)
		wantRefused(t, m, s, api.ErrPower)
		reach(l, 0, 1, 2)
		wantDone(t, m, s)
		wantSame(t, m, opened(t, m.Journal()...))
	}
}

// P10.3: the change's own error comes before that the books are full, and this before that copies are out of reach.
func TestDoFullBooks(t *testing.T) {
	l := copies(3)
	m := open(t, l)
	wantDone(t, m, "medal gold")
	for i := 1; i < 200; i++ {
		wantDone(t, m, text("batch", 0, 0, i%14, 0))
	}
	for range 2 {
		wantRefused(t, m, "medal iron", api.ErrFull)
		wantRefused(t, m, "medal gold", api.ErrState)
		wantRefused(t, m, "medals", api.ErrForm)
		wantRefused(t, m, "batch 99 0 0 0", api.ErrArg)
		wantRefused(t, m, "above gold iron", api.ErrNone)
		reach(l)
	}
	wantReply(t, m, "roll", "roll gold")
	if m.Out() || len(m.Journal()) != 200 {
		t.Error(m.Out(), m.Journal())
	}
}

// P10.3, P10.4, P10.6: a mint that finds its mark overtaken on most copies is out, though its line may be on the others; it only answers then.
func TestOut(t *testing.T) {
	l := copies(3)
	m := open(t, l)
	wantDone(t, m, "medal gold")
	reach(l, 1, 2)
	n := open(t, l)
	wantDone(t, n, "medal iron")
	reach(l, 0, 1)
	state := m.State()
	if reply, e := m.Do("medal tin"); reply != "" || e != api.ErrState {
		t.Error(reply, e)
	}
	if !m.Out() || m.State() != state || n.Out() {
		t.Error(m.Out(), m.State(), n.Out())
	}
	wantJournal(t, m, "medal gold")
	wantEntry(t, l[0], 1, 1, "medal tin")
	wantMark(t, l[0], 1)
	reach(l)
	for _, s := range []string{"medal tin", "medal gold", "roll", "", "above a b"} {
		wantRefused(t, m, s, api.ErrState)
	}
	wantReply(t, m, "roll", "roll gold")
	wantNoReply(t, m, "chance gold iron", api.ErrNone)
	wantNoReply(t, m, "medal tin", api.ErrForm)
	reach(l, 0, 1)
	wantDone(t, n, "medal zinc")
	wantEntry(t, l[0], 2, 2, "medal zinc")
	reach(l, 0, 2)
	// Copy 0 has tin with the mark 1, and has not iron: that is on copy 2.
	wantJournal(t, open(t, l), "medal gold", "medal iron", "medal zinc")
}

// P10.3: a mark that was overtaken on few copies alone does no harm.
func TestFewOvertaken(t *testing.T) {
	l := copies(5)
	m := open(t, l)
	want(t, l[0].Promise(5), api.OK)
	want(t, l[3].Promise(2), api.OK)
	wantDone(t, m, "medal gold")
	wantBooks(t, l[0], 5)
	wantBooks(t, l[1], 1, "medal gold")
	wantBooks(t, l[3], 2)
	reach(l, 0, 1, 2, 3)
	if reply, e := m.Do("medal iron"); reply != "" || e != api.ErrState || !m.Out() {
		t.Error(reply, e, m.Out())
	}
	wantJournal(t, m, "medal gold")
	wantEntry(t, l[2], 1, 1, "medal iron")
}

// P10.2, P10.3, P10.4: of a Mint that Open did not make.
func TestUnmadeMint(t *testing.T) {
	l := copies(3)
	of := *open(t, l)
	for _, m := range []*Mint{nil, {}, new(Mint), &of} {
		for _, s := range []string{"medal gold", "roll", "", "above a b"} {
			if reply, e := m.Do(s); reply != "" || e != api.ErrNil {
				t.Error(reply, e)
			}
			if reply, e := m.Ask(s); reply != "" || e != api.ErrNil {
				t.Error(reply, e)
			}
		}
		if m.Journal() != nil || m.State() != "" || m.Out() {
			t.Error(m.Journal(), m.State(), m.Out())
		}
	}
	wantBooks(t, l[0], 1)
}

// P10.4: Journal is new memory.
func TestJournalIsNew(t *testing.T) {
	m := opened(t, "medal gold", "medal iron")
	l := m.Journal()
	l[0] = "medal tin"
	_ = append(l[:1], "medal lead")
	wantJournal(t, m, "medal gold", "medal iron")
	before := m.Journal()
	wantDone(t, m, "medal zinc")
	if !slices.Equal(before, []string{"medal gold", "medal iron"}) {
		t.Error(before)
	}
}

// P10.4: State is the replies to these questions, each with a byte 10, and an empty line where there is an error.
func TestState(t *testing.T) {
	m := opened(t, "medal gold", "medal iron", "medal tin", "above gold tin", "player ada", "player bob", "player cid", "beat cid ada", "batch 3 2 1 1", "bet 1 4", "bet 6 8")
	want := ""
	for _, q := range strings.Split("roll,ways,order,kings,need,bound,price 1,price 2,price 3,price 4,price 5,price 6,price 7", ",") {
		reply, e := m.Ask(q)
		if e != api.OK {
			t.Error(q, e)
		}
		want += reply + "\n"
	}
	if got := m.State(); got != want {
		t.Errorf("%q, want %q", got, want)
	}
	if !strings.HasPrefix(want, "roll iron tin gold\nways 3\norder ada bob cid\nkings ada bob cid\nneed 3\nbound 3\nprice 4\nprice 0 1 2 3 4 5 6 7 8\n") {
		t.Errorf("%q", want)
	}
	if n := strings.Count(m.State(), "\n"); n != 13 {
		t.Error(n)
	}
}

// P10.2, P10.4: two mints on other copies know nothing of each other.
func TestOtherCopies(t *testing.T) {
	m, n := opened(t, "medal gold"), opened(t, "medal iron")
	wantJournal(t, m, "medal gold")
	wantJournal(t, n, "medal iron")
	for i := range 5 {
		wantDone(t, m, "player "+strings.Repeat("x", i+1))
		wantRefused(t, n, "above "+strings.Repeat("x", i+1)+" gold", api.ErrNone)
	}
	wantReply(t, m, "order", "order x xx xxx xxxx xxxxx")
	wantJournal(t, n, "medal iron")
}
