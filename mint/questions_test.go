package mint

import (
	"testing"

	"planchet/api"
	"planchet/guess"
)

// P10.3: the fourth example, and the ends of what may be asked.
func TestNumbersThatAreAsked(t *testing.T) {
	m := opened(t)
	for _, q := range [][2]string{
		{"liar 16 1", "liar 7"}, {"liar 16 0", "liar 4"}, {"liar 16 2", "liar 10"}, {"liar 1 2", "liar 0"}, {"liar 40 0", "liar 6"},
		{"pegs 1 1", "pegs 1"}, {"pegs 1 6", "pegs 6"}, {"pegs 2 2", "pegs 3"}, {"pegs 3 2", "pegs 3"},
		{"ring 1", "ring 2"}, {"ring 2", "ring 5"},
		{"talk 1", "talk 0"}, {"talk 2", "talk 2"}, {"talk 3", "talk 3"}, {"talk 4", "talk 3"},
		{"learn 1", "learn 1"}, {"learn 2", "learn 1"}, {"learn 3", "learn 1"}, {"learn 4", "learn 1"}, {"learn 5", "learn 1"},
		{"evade 1", "evade 0"}, {"evade 2", "evade 2"}, {"evade 3", "evade 3"}, {"evade 4", "evade 4"}, {"evade 5", "evade 5"}, {"evade 6", "evade 6"},
	} {
		wantReply(t, m, q[0], q[1])
	}
	for _, q := range []string{
		"liar 0 0", "liar 41 0", "liar 5 3", "liar 999 999", "pegs 0 1", "pegs 1 0", "pegs 5 1", "pegs 1 7", "pegs 3 4", "pegs 999 999",
		"ring 0", "ring 4", "ring 999", "talk 0", "talk 5", "talk 999", "learn 0", "learn 6", "learn 999", "evade 0", "evade 7", "evade 999",
		"price 8", "price 999",
	} {
		wantNoReply(t, m, q, api.ErrArg)
	}
	wantNoReply(t, m, "ring 3", api.ErrSize)
}

// P10.3: the two numbers of liar and pegs come in the order of the chapter on guessing.
func TestGuesses(t *testing.T) {
	m := opened(t)
	for n := range 43 {
		for e := range 4 {
			wantNumber(t, m, "liar", n, e, guess.Least)
		}
	}
	for p := range 6 {
		for c := range 8 {
			wantNumber(t, m, "pegs", p, c, guess.Need)
		}
	}
}

func wantNumber(t *testing.T, m *Mint, first string, a, b int, f func(a, b int) (int, api.Errno)) {
	t.Helper()
	n, e := f(a, b)
	if e != api.OK {
		wantNoReply(t, m, text(first, a, b), e)
		return
	}
	wantReply(t, m, text(first, a, b), text(first, n))
}

// P10.3: chance tells of medals that are not there before it tells that they are the same.
func TestChanceErrors(t *testing.T) {
	m := opened(t, "medal gold", "player iron")
	wantNoReply(t, m, "chance gold gold", api.ErrArg)
	wantNoReply(t, m, "chance tin tin", api.ErrNone)
	wantNoReply(t, m, "chance gold tin", api.ErrNone)
	wantNoReply(t, m, "chance tin gold", api.ErrNone)
	wantNoReply(t, m, "chance gold iron", api.ErrNone)
	wantNoReply(t, opened(t), "chance gold iron", api.ErrNone)
}
