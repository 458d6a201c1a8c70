package bets

import (
	"math"
	"slices"
	"testing"

	"planchet/api"
)

// P9.2: the example, and bets on what is certain.
func TestBeatExamples(t *testing.T) {
	for _, x := range []struct {
		n int
		l []Bet
		b Book
	}{
		{2, []Bet{{1, 6}, {2, 8}}, Book{[]int{-1, -1}}},
		{2, []Bet{{1, 6}, {2, 4}}, Book{[]int{1, 1}}},
		{2, []Bet{{0, 1}}, Book{[]int{-1}}},
		{5, []Bet{{31, 11}}, Book{[]int{1}}},
		{3, []Bet{{1, 4}, {3, 2}}, Book{[]int{-1, 1}}},
	} {
		if ok, e := Beats(x.n, x.l, x.b); !ok || e != api.OK {
			t.Error(x, ok, e)
		}
		if b, e := Beat(x.n, x.l); e != api.OK || !beats(x.n, x.l, b) {
			t.Error(x, b, e)
		}
	}
	if b, e := Beat(2, []Bet{{1, 4}}); b.Stakes != nil || e != api.ErrNone {
		t.Error(b, e)
	}
}

// P9.2: Beats is false for what is no Book, or brings nothing in some world.
func TestBeats(t *testing.T) {
	l := []Bet{{1, 6}, {2, 8}}
	for _, x := range []struct {
		stakes []int
		ok     bool
	}{
		{[]int{-1, -1}, true},
		{[]int{-1_000_000_000, -1_000_000_000}, true},
		{[]int{-1_000_000_000, -999_999_999}, true},
		{[]int{-1_000_000_001, -1_000_000_001}, false},
		{[]int{-1_000_000_000, -1_000_000_001}, false},
		{[]int{1, 1}, false},
		{[]int{0, 0}, false},
		{[]int{-4, -3}, false},
		{[]int{-2, -3}, false},
		{[]int{-3, -4}, true},
		{[]int{-1}, false},
		{[]int{-1, -1, 0}, false},
		{nil, false},
		{[]int{math.MinInt, math.MinInt}, false},
		{[]int{math.MaxInt, -1}, false},
	} {
		given := slices.Clone(x.stakes)
		if ok, e := Beats(2, l, Book{x.stakes}); ok != x.ok || e != api.OK || !slices.Equal(x.stakes, given) {
			t.Error(x, ok, e)
		}
	}
	// what it pays is just what it cost
	for _, stakes := range [][]int{{1}, {-1}, {0}} {
		if ok, e := Beats(2, []Bet{{3, 12}}, Book{stakes}); ok || e != api.OK {
			t.Error(stakes, ok, e)
		}
	}
}

// P9.2: Beats is what the chapter says, for any stakes; and no Book beats sound bets.
func TestBeatsAll(t *testing.T) {
	r := uint64(7)
	found := 0
	for range 30000 {
		n := 2 + next(&r, 4)
		l := random(&r, n)
		stakes := make([]int, len(l))
		for i := range stakes {
			stakes[i] = next(&r, 5) - 2
			if next(&r, 4) == 0 {
				stakes[i] *= 500_000_000
			}
		}
		ok, e := Beats(n, l, Book{stakes})
		_, f := Sound(n, l)
		if ok != beats(n, l, Book{stakes}) || e != api.OK || ok && f == api.OK {
			t.Fatal(n, l, stakes, ok, e, f)
		}
		if ok {
			found++
		}
	}
	if found < 100 {
		t.Error(found)
	}
}

// P9.2: Books that need many different stakes are found, too: bets on 5 worlds whose prices are just above or below those of a belief.
func TestBeatFar(t *testing.T) {
	r := uint64(8)
	all := grid(5, 12)
	for range 1500 {
		b := all[next(&r, len(all))]
		var l []Bet
		for len(l) < 6 {
			event := 1 + next(&r, 30)
			if !slices.ContainsFunc(l, func(x Bet) bool { return x.Event == event }) {
				l = append(l, Bet{event, parts(b, event)})
			}
		}
		i := next(&r, 6)
		l[i].Cents = max(0, min(12, l[i].Cents+2*next(&r, 2)-1))
		_, _, sound := boundsOf(5, l, 0)
		oneOrOther(t, 5, l, sound)
	}
}
