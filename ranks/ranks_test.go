package ranks

import (
	"math"
	"reflect"
	"slices"
	"testing"

	"planchet/api"
)

// someTournament returns the tournament of n players whose results are the bits of r, pair by pair.
func someTournament(n int, r uint64) []int {
	t := make([]int, n)
	for i := range n {
		for j := i + 1; j < n; j++ {
			if r&1 == 1 {
				t[i] |= 1 << j
			} else {
				t[j] |= 1 << i
			}
			r >>= 1
		}
	}
	return t
}

// everyTournament calls f with each tournament of n players.
func everyTournament(n int, f func([]int)) {
	for r := range uint64(1) << (n * (n - 1) / 2) {
		f(someTournament(n, r))
	}
}

// manyTournaments calls f with all tournaments of up to 5 players, and with so many of each greater number.
func manyTournaments(count int, f func([]int)) {
	for n := 1; n <= 5; n++ {
		everyTournament(n, f)
	}
	r := uint64(1)
	for n := 6; n <= api.MaxRanks; n++ {
		for range count {
			r = r*6364136223846793005 + 1442695040888963407
			f(someTournament(n, r>>30))
		}
		f(circle(n))
	}
}

// circle is the tournament in which each one beats those of the next half of a circle; with an even number of players, opposite ones are settled by their numbers.
func circle(n int) []int {
	t := make([]int, n)
	for i := range n {
		for d := 1; 2*d < n; d++ {
			t[i] |= 1 << ((i + d) % n)
		}
		if n%2 == 0 && i < n/2 {
			t[i] |= 1 << (i + n/2)
		}
	}
	return t
}

// won reports whether i beats j in t.
func won(t []int, i, j int) bool { return t[i]&(1<<j) != 0 }

// everyRow calls f with each slice of k different ones of n players, in order, until it returns false.
func everyRow(n, k int, f func([]int) bool) {
	row := make([]int, 0, k)
	var add func() bool
	add = func() bool {
		if len(row) == k {
			return f(row)
		}
		for p := range n {
			if slices.Contains(row, p) {
				continue
			}
			row = append(row, p)
			ok := add()
			row = row[:len(row)-1]
			if !ok {
				return false
			}
		}
		return true
	}
	add()
}

// badTournaments are no tournaments.
var badTournaments = [][]int{
	nil, {}, make([]int, 9), {510, 508, 504, 496, 480, 448, 384, 256, 0}, // none, and nine players
	{1}, {3}, {2}, {-1}, {256}, {math.MaxInt}, {math.MinInt}, // one player
	{0, 0}, {2, 1}, {3, 0}, {2, 2}, {2, 3}, {4, 0}, {0, 5}, {2, 4}, {6, 0}, {-2, 0}, {-2, 1}, {2, math.MinInt}, {math.MinInt | 2, 0}, {math.MaxInt, 0}, {2 + 1<<32, 0}, {2 + 1<<62, 0},
	{2, 4, 0}, {2, 4, 3}, {2, 4, 5}, {2, 6, 1}, {10, 4, 1}, {2, 12, 1}, {2, 4, 9}, {2, 4, 1, 0}, {-6, 4, 1}, {2, 4, math.MinInt | 1}, {3, 4, 1}, {6, 4, 0, 16},
	{254, 252, 248, 240, 224, 192, 128, 1}, {254, 252, 248, 240, 224, 192, 0, 0}, {254, 252, 248, 240, 224, 192, 128, 256},
}

func TestBadTournaments(t *testing.T) {
	for _, bad := range badTournaments {
		same := slices.Clone(bad)
		if l, e := Scores(bad); len(l) != 0 || e != api.ErrArg {
			t.Error("Scores", bad, l, e)
		}
		if l, e := Way(bad); len(l) != 0 || e != api.ErrArg {
			t.Error("Way", bad, l, e)
		}
		for _, k := range []int{math.MinInt, 0, 1, 2, 3, 8, math.MaxInt} {
			if l, e := Round(bad, k); len(l) != 0 || e != api.ErrArg {
				t.Error("Round", bad, k, l, e)
			}
		}
		if n, e := Kings(bad); n != 0 || e != api.ErrArg {
			t.Error("Kings", bad, n, e)
		}
		if l, e := Parts(bad); len(l) != 0 || e != api.ErrArg {
			t.Error("Parts", bad, l, e)
		}
		for _, order := range [][]int{nil, {0}, {0, 1}, {0, 1, 2}, {0, 1, 2, 3}, {0, 1, 2, 3, 4, 5, 6, 7}, {0, 1, 2, 3, 4, 5, 6, 7, 8}, {-1}} {
			if n, e := Against(bad, order); n != 0 || e != api.ErrArg {
				t.Error("Against", bad, order, n, e)
			}
		}
		if l, e := Order(bad); len(l) != 0 || e != api.ErrArg {
			t.Error("Order", bad, l, e)
		}
		if l, e := Cycles(bad); len(l) != 0 || e != api.ErrArg {
			t.Error("Cycles", bad, l, e)
		}
		if l, e := Pack(bad); len(l) != 0 || e != api.ErrArg {
			t.Error("Pack", bad, l, e)
		}
		for _, pairs := range [][][2]int{nil, {{0, 1}}, {{-1, 0}}} {
			if l, e := Turn(bad, pairs); len(l) != 0 || e != api.ErrArg {
				t.Error("Turn", bad, pairs, l, e)
			}
		}
		if n, e := Clear(bad); n != 0 || e != api.ErrArg {
			t.Error("Clear", bad, n, e)
		}
		if !slices.Equal(same, bad) {
			t.Error("changed", same, bad)
		}
	}
}

// example holds what the chapter's Examples, and cases like them, give.
type example struct {
	t, scores, way []int
	kings          int
	parts, order   []int
	against        int
	cycles         [][3]int
	packed, clear  int
	rounds         map[int][]int
	noRounds       []int
}

var examples = []example{
	{t: []int{2, 4, 1}, scores: []int{1, 1, 1}, way: []int{0, 1, 2}, kings: 7, parts: []int{7}, order: []int{0, 1, 2}, against: 1, cycles: [][3]int{{0, 1, 2}}, packed: 1, clear: 2, rounds: map[int][]int{3: {0, 1, 2}}},
	{t: []int{4, 1, 2}, scores: []int{1, 1, 1}, way: []int{0, 2, 1}, kings: 7, parts: []int{7}, order: []int{0, 2, 1}, against: 1, cycles: [][3]int{{0, 2, 1}}, packed: 1, clear: 2, rounds: map[int][]int{3: {0, 2, 1}}},
	{t: []int{6, 4, 0}, scores: []int{0, 1, 2}, way: []int{0, 1, 2}, kings: 1, parts: []int{1, 2, 4}, order: []int{0, 1, 2}, clear: 3, noRounds: []int{3}},
	{t: []int{0}, scores: []int{0}, way: []int{0}, kings: 1, parts: []int{1}, order: []int{0}, clear: 1},
	{t: []int{0, 1}, scores: []int{0, 1}, way: []int{1, 0}, kings: 2, parts: []int{2, 1}, order: []int{1, 0}, clear: 2},
	// 3 beats all, and 0 beats 1 beats 2 beats 0.
	{t: []int{2, 4, 1, 7}, scores: []int{1, 1, 1, 3}, way: []int{3, 0, 1, 2}, kings: 8, parts: []int{8, 7}, order: []int{3, 0, 1, 2}, against: 1, cycles: [][3]int{{0, 1, 2}}, packed: 1, clear: 3, rounds: map[int][]int{3: {0, 1, 2}}, noRounds: []int{4}},
	// 1 beats 2 beats 3 beats 1, and all of them beat 0.
	{t: []int{0, 5, 9, 3}, scores: []int{0, 2, 2, 2}, way: []int{1, 2, 3, 0}, kings: 14, parts: []int{14, 1}, order: []int{1, 2, 3, 0}, against: 1, cycles: [][3]int{{1, 2, 3}}, packed: 1, clear: 3, rounds: map[int][]int{3: {1, 2, 3}}, noRounds: []int{4}},
	// The circle of seven.
	{t: []int{14, 28, 56, 112, 97, 67, 7}, scores: []int{3, 3, 3, 3, 3, 3, 3}, way: []int{0, 1, 2, 3, 4, 5, 6}, kings: 127, parts: []int{127}, order: []int{0, 1, 2, 3, 4, 5, 6}, against: 6, packed: 5, clear: 4,
		cycles: [][3]int{{0, 1, 4}, {0, 2, 4}, {0, 2, 5}, {0, 3, 4}, {0, 3, 5}, {0, 3, 6}, {1, 2, 5}, {1, 3, 5}, {1, 3, 6}, {1, 4, 5}, {1, 4, 6}, {2, 3, 6}, {2, 4, 6}, {2, 5, 6}},
		rounds: map[int][]int{3: {0, 1, 4}, 4: {0, 1, 2, 4}, 5: {0, 1, 2, 3, 4}, 6: {0, 1, 2, 3, 4, 5}, 7: {0, 1, 2, 3, 4, 5, 6}}},
}

// P2.1 to P2.7: the Examples.
func TestExamples(t *testing.T) {
	for _, x := range examples {
		if l, e := Scores(x.t); !slices.Equal(l, x.scores) || e != api.OK {
			t.Error("Scores", x.t, l, e)
		}
		if l, e := Way(x.t); !slices.Equal(l, x.way) || e != api.OK {
			t.Error("Way", x.t, l, e)
		}
		if n, e := Kings(x.t); n != x.kings || e != api.OK {
			t.Error("Kings", x.t, n, e)
		}
		if l, e := Parts(x.t); !slices.Equal(l, x.parts) || e != api.OK {
			t.Error("Parts", x.t, l, e)
		}
		if l, e := Order(x.t); !slices.Equal(l, x.order) || e != api.OK {
			t.Error("Order", x.t, l, e)
		}
		if n, e := Against(x.t, x.order); n != x.against || e != api.OK {
			t.Error("Against", x.t, n, e)
		}
		if l, e := Cycles(x.t); !slices.Equal(l, x.cycles) || e != api.OK {
			t.Error("Cycles", x.t, l, e)
		}
		if l, e := Pack(x.t); len(l) != x.packed || e != api.OK {
			t.Error("Pack", x.t, l, e)
		}
		if n, e := Clear(x.t); n != x.clear || e != api.OK {
			t.Error("Clear", x.t, n, e)
		}
		for k, want := range x.rounds {
			if l, e := Round(x.t, k); !slices.Equal(l, want) || e != api.OK {
				t.Error("Round", x.t, k, l, e)
			}
		}
		for _, k := range x.noRounds {
			if l, e := Round(x.t, k); len(l) != 0 || e != api.ErrNone {
				t.Error("Round", x.t, k, l, e)
			}
		}
	}
}

// P2.1: the scores, against the results one by one.
func TestScores(t *testing.T) {
	manyTournaments(50, func(x []int) {
		var want []int
		for i := range x {
			n := 0
			for j := range x {
				if won(x, i, j) {
					n++
				}
			}
			want = append(want, n)
		}
		slices.Sort(want)
		if got, e := Scores(x); !slices.Equal(got, want) || e != api.OK {
			t.Error(x, got, e)
		}
	})
}

// isKing reports whether i beats everybody, or somebody who does.
func isKing(t []int, i int) bool {
	for j := range t {
		ok := j == i || won(t, i, j)
		for m := range t {
			ok = ok || won(t, i, m) && won(t, m, j)
		}
		if !ok {
			return false
		}
	}
	return true
}

// P2.3, P2.11: all kings; whoever has the greatest score is one; if nobody beats all others, there are three.
func TestKings(t *testing.T) {
	manyTournaments(300, func(x []int) {
		kings, e := Kings(x)
		if e != api.OK || kings>>len(x) != 0 {
			t.Error(x, kings, e)
		}
		scores, _ := Scores(x)
		top, count := scores[len(x)-1], 0
		for i := range x {
			is := kings&(1<<i) != 0
			if is != isKing(x, i) {
				t.Error(x, kings, i)
			}
			if is {
				count++
			}
			if size(x[i]) == top && !is {
				t.Error("greatest score", x, kings, i)
			}
		}
		if top < len(x)-1 && count < 3 || top == len(x)-1 && count != 1 {
			t.Error("number", x, kings)
		}
	})
}

// P2.6: the results of the pairs are turned, no others; turning twice changes nothing.
func TestTurn(t *testing.T) {
	r := uint64(3)
	manyTournaments(100, func(x []int) {
		r = r*6364136223846793005 + 1442695040888963407
		var pairs [][2]int
		turned := map[[2]int]bool{}
		for i := range x {
			for j := i + 1; j < len(x); j++ {
				if r>>(20+i+4*j)&1 == 1 {
					pairs = append(pairs, [2]int{i, j})
					turned[[2]int{i, j}] = true
				}
			}
		}
		if r&(1<<60) != 0 {
			slices.Reverse(pairs)
		}
		same, samePairs := slices.Clone(x), slices.Clone(pairs)
		got, e := Turn(x, pairs)
		if e != api.OK || len(got) != len(x) {
			t.Fatal(x, pairs, got, e)
		}
		for i := range x {
			for j := i + 1; j < len(x); j++ {
				if won(got, i, j) != (won(x, i, j) != turned[[2]int{i, j}]) {
					t.Error(x, pairs, got)
				}
			}
		}
		back, e := Turn(got, pairs)
		if !slices.Equal(back, x) || e != api.OK {
			t.Error(x, pairs, got, back, e)
		}
		clear(got)
		if !slices.Equal(x, same) || !slices.Equal(pairs, samePairs) {
			t.Error("changed", same, x, samePairs, pairs)
		}
	})
	for _, none := range [][][2]int{nil, {}} {
		x := []int{2, 4, 1}
		got, e := Turn(x, none)
		if !slices.Equal(got, x) || e != api.OK || &got[0] == &x[0] {
			t.Error(got, e)
		}
	}
}

// allPairs returns the pairs of n players.
func allPairs(n int) [][2]int {
	var all [][2]int
	for i := range n {
		for j := i + 1; j < n; j++ {
			all = append(all, [2]int{i, j})
		}
	}
	return all
}

// P2.6: 28 pairs are the most; what are no pairs.
func TestTurnBad(t *testing.T) {
	eight := []int{254, 252, 248, 240, 224, 192, 128, 0}
	if got, e := Turn(eight, allPairs(8)); !slices.Equal(got, []int{0, 1, 3, 7, 15, 31, 63, 127}) || e != api.OK {
		t.Error(got, e)
	}
	three := []int{2, 4, 1}
	for _, pairs := range [][][2]int{
		{{0, 0}}, {{1, 0}}, {{2, 2}}, {{2, 0}}, {{0, 3}}, {{3, 4}}, {{-1, 0}}, {{-1, 2}}, {{-2, -1}}, {{0, -1}}, {{0, 1}, {0, 1}}, {{0, 1}, {1, 2}, {0, 1}}, {{0, 1}, {1, 0}},
		{{0, 1}, {1, 2}, {0, 3}}, {{0, math.MaxInt}}, {{math.MinInt, 1}}, {{math.MinInt, math.MaxInt}}, {{math.MinInt, math.MinInt}}, {{math.MaxInt, math.MaxInt}}, {{0, 64}}, {{0, 65}}, {{0, 1<<32 + 1}},
		make([][2]int, 29), make([][2]int, 1<<20), append(allPairs(3), [2]int{0, 1}), allPairs(4),
	} {
		if got, e := Turn(three, pairs); len(got) != 0 || e != api.ErrArg {
			t.Error(len(pairs), got, e)
		}
	}
	for _, more := range allPairs(9) {
		if got, e := Turn(eight, append(allPairs(8), more)); len(got) != 0 || e != api.ErrArg {
			t.Error(more, got, e)
		}
	}
}

// The functions change no argument, and give new memory and the same results each time.
func TestSameAgain(t *testing.T) {
	manyTournaments(20, func(x []int) {
		same := slices.Clone(x)
		order, _ := Order(x)
		for name, f := range map[string]func() any{
			"Scores": func() any { l, _ := Scores(x); return l },
			"Make":   func() any { s, _ := Scores(x); l, _ := Make(s); return l },
			"Way":    func() any { l, _ := Way(x); return l },
			"Round":  func() any { l, _ := Round(x, len(x)); return l },
			"Parts":  func() any { l, _ := Parts(x); return l },
			"Order":  func() any { l, _ := Order(x); return l },
			"Cycles": func() any { l, _ := Cycles(x); return l },
			"Pack":   func() any { l, _ := Pack(x); return l },
		} {
			first := f()
			second := f()
			if !reflect.DeepEqual(first, second) {
				t.Error(name, x, first, second)
			}
			spoil(second)
			if third := f(); !reflect.DeepEqual(first, third) {
				t.Error(name, x, first, third)
			}
		}
		again := slices.Clone(order)
		if _, e := Against(x, order); e != api.OK || !slices.Equal(order, again) || !slices.Equal(x, same) {
			t.Error("changed", same, x, again, order, e)
		}
	})
}

// spoil writes over all elements of l.
func spoil(l any) {
	switch l := l.(type) {
	case []int:
		clear(l)
	case [][3]int:
		clear(l)
	}
}
