package mint

import (
	"slices"
	"strings"
	"testing"

	"planchet/api"
)

// copies returns n new copies.
func copies(n int) []*Copy {
	var l []*Copy
	for range n {
		l = append(l, NewCopy())
	}
	return l
}

func open(t *testing.T, l []*Copy) *Mint {
	t.Helper()
	m, e := Open(l)
	if m == nil || e != api.OK {
		t.Fatalf("Open: %v %v", m, e)
	}
	return m
}

// opened returns a mint that has done these changes.
func opened(t *testing.T, changes ...string) *Mint {
	t.Helper()
	m := open(t, copies(3))
	for _, s := range changes {
		wantDone(t, m, s)
	}
	return m
}

// wantDone does a change, whose reply is its first word.
func wantDone(t *testing.T, m *Mint, s string) {
	t.Helper()
	reply, e := m.Do(s)
	if first := strings.Fields(s)[0]; reply != first || e != api.OK {
		t.Errorf("Do(%q): %q %v, want %q", s, reply, e, first)
	}
}

// wantRefused does a change that has an error, and so no reply, and leaves all as it is.
func wantRefused(t *testing.T, m *Mint, s string, want api.Errno) {
	t.Helper()
	state, journal, out := m.State(), m.Journal(), m.Out()
	if reply, e := m.Do(s); reply != "" || e != want {
		t.Errorf("Do(%q): %q %v, want error %v", s, reply, e, want)
	}
	if m.State() != state || !slices.Equal(m.Journal(), journal) || m.Out() != out {
		t.Errorf("Do(%q) has changed the mint", s)
	}
}

func wantReply(t *testing.T, m *Mint, s, want string) {
	t.Helper()
	if reply, e := m.Ask(s); reply != want || e != api.OK {
		t.Errorf("Ask(%q): %q %v, want %q", s, reply, e, want)
	}
}

func wantNoReply(t *testing.T, m *Mint, s string, want api.Errno) {
	t.Helper()
	if reply, e := m.Ask(s); reply != "" || e != want {
		t.Errorf("Ask(%q): %q %v, want error %v", s, reply, e, want)
	}
}

var changeLines = []string{
	"medal tin", "above gold iron", "player cid", "beat bob ada",
	"batch 12 0 0 0", "pan 0 0 0 0", "bet 4 5",
}

var questionLines = []string{
	"roll", "ways", "chance gold iron", "order", "kings", "need", "bound",
	"price 1", "liar 5 1", "pegs 2 2", "ring 1", "talk 2", "learn 2", "evade 2",
}

// P10.3: every line is either a change, or a question.
func TestChangesAndQuestions(t *testing.T) {
	for _, s := range changeLines {
		m := opened(t, "medal gold", "medal iron", "player ada", "player bob", "batch 3 0 0 4")
		if s == "pan 0 0 0 0" {
			s = "pan 0 0 0 1"
		}
		wantNoReply(t, m, s, api.ErrForm)
		wantDone(t, m, s)
	}
	m := opened(t, "medal gold", "medal iron", "player ada", "player bob")
	for _, s := range questionLines {
		wantRefused(t, m, s, api.ErrForm)
		if reply, e := m.Ask(s); e != api.OK || strings.Fields(reply)[0] != strings.Fields(s)[0] {
			t.Error(s, reply, e)
		}
	}
}

// P10.3: a line is a non-empty string of words with single blanks, of at most 60 bytes from 32 to 126, and begins with a known word.
func TestNoLines(t *testing.T) {
	m := opened(t, "medal gold", "medal iron")
	bad := []string{
		"", " ", "  ", "\n", "\x00", "medals", "Medal gold", "mint", "state", "journal", "out", "a", "1", "roll\x00",
		strings.Repeat("x", 60), strings.Repeat("x", 61), "roll" + strings.Repeat(" ", 1<<16), strings.Repeat("roll ", 1<<16),
	}
	for _, s := range slices.Concat(changeLines, questionLines) {
		bad = append(bad, " "+s, s+" ", s+"\n", "\t"+s, s+"\x7f", s+"\x1f", s+"é", s+"\xff", strings.ToUpper(s))
		if strings.Contains(s, " ") {
			bad = append(bad, strings.Replace(s, " ", "  ", 1), strings.Replace(s, " ", "\t", 1), strings.ReplaceAll(s, " ", "\u00a0"))
		}
	}
	for _, s := range bad {
		wantRefused(t, m, s, api.ErrForm)
		wantNoReply(t, m, s, api.ErrForm)
	}
}

// P10.3: a line with another number of words.
func TestNumbersOfWords(t *testing.T) {
	m := opened(t, "medal gold", "medal iron")
	for _, s := range slices.Concat(changeLines, questionLines) {
		words := strings.Fields(s)
		for n := range 7 {
			if n == len(words)-1 {
				continue
			}
			for _, word := range []string{"gold", "0", "1"} {
				line := words[0] + strings.Repeat(" "+word, n)
				wantRefused(t, m, line, api.ErrForm)
				wantNoReply(t, m, line, api.ErrForm)
			}
		}
	}
}

// P10.3: names are 1 to 8 letters a to z.
func TestNames(t *testing.T) {
	m := opened(t)
	for _, name := range []string{"a", "z", "abcdefgh", "zzzzzzzz", "medal"} {
		wantDone(t, m, "medal "+name)
		wantDone(t, m, "player "+name)
	}
	for _, name := range []string{"abcdefghi", "A", "Gold", "gold1", "1", "0", "go-ld", "`", "{", "go.ld", "_", "gold,", "é"} {
		for _, s := range []string{"medal ?", "player ?", "above ? a", "above a ?", "beat ? a", "beat a ?"} {
			wantRefused(t, m, strings.Replace(s, "?", name, 1), api.ErrForm)
		}
		wantNoReply(t, m, "chance a "+name, api.ErrForm)
		wantNoReply(t, m, "chance "+name+" a", api.ErrForm)
	}
}

// P10.3: numbers are at most 3 decimal digits without leading zeros; that they are too great is another error.
func TestNumbers(t *testing.T) {
	m := opened(t)
	wantReply(t, m, "price 0", "price 0")
	wantReply(t, m, "price 7", "price 12")
	for _, n := range []string{"14", "20", "99", "100", "999"} {
		wantNoReply(t, m, "price "+n, api.ErrArg)
		wantRefused(t, m, "bet "+n+" 1", api.ErrArg)
		wantRefused(t, m, "bet 1 "+n, api.ErrArg)
		wantRefused(t, m, "batch "+n+" 0 0 0", api.ErrArg)
	}
	lines := []string{"batch ? 0 0 0", "batch 0 ? 0 0", "batch 0 0 ? 0", "batch 0 0 0 ?", "pan ? 0 0 0", "pan 0 ? 0 0", "pan 0 0 ? 0", "pan 0 0 0 ?", "bet ? 1", "bet 1 ?"}
	questions := []string{"price ?", "liar ? 1", "liar 1 ?", "pegs ? 1", "pegs 1 ?", "ring ?", "talk ?", "learn ?", "evade ?"}
	for _, n := range []string{"00", "01", "007", "000", "1000", "0001", "-1", "+1", "-0", "1.", "1e1", "0x1", "1_0", "a", "/", ":", "one", "1a", "a1", "\"1\""} {
		for _, s := range lines {
			wantRefused(t, m, strings.Replace(s, "?", n, 1), api.ErrForm)
		}
		for _, s := range questions {
			wantNoReply(t, m, strings.Replace(s, "?", n, 1), api.ErrForm)
		}
	}
}
