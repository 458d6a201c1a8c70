package bets

import (
	"math"
	"math/big"
	"reflect"
	"slices"
	"testing"

	"planchet/api"
)

// next returns a number from 0 to below n, each time another one.
func next(r *uint64, n int) int {
	*r = *r*6364136223846793005 + 1442695040888963407
	return int(*r >> 33 % uint64(n))
}

func isFrac(f api.Frac) bool {
	return f.Den >= 1 && rat(f.Num, f.Den).Denom().Int64() == int64(f.Den)
}

// lowestOf returns num / den as the Frac that it is.
func lowestOf(num, den int) api.Frac {
	x := rat(num, den)
	return api.Frac{Num: int(x.Num().Int64()), Den: int(x.Denom().Int64())}
}

func rat(num, den int) *big.Rat { return big.NewRat(int64(num), int64(den)) }

func value(f api.Frac) *big.Rat { return rat(f.Num, f.Den) }

func in(event, world int) bool { return event&(1<<world) != 0 }

// chance returns the sum of a belief over the worlds of an event.
func chance(b []api.Frac, event int) *big.Rat {
	sum := new(big.Rat)
	for w, f := range b {
		if in(event, w) {
			sum.Add(sum, value(f))
		}
	}
	return sum
}

// isBelief takes the words of the chapter one by one.
func isBelief(n int, b []api.Frac) bool {
	for _, f := range b {
		if !isFrac(f) || f.Num < 0 {
			return false
		}
	}
	return len(b) == n && chance(b, 1<<n-1).Cmp(rat(1, 1)) == 0
}

// agrees takes the words of the chapter one by one.
func agrees(n int, l []Bet, b []api.Frac) bool {
	for _, x := range l {
		if chance(b, x.Event).Cmp(rat(x.Cents, 12)) != 0 {
			return false
		}
	}
	return isBelief(n, b)
}

// beats takes the words of the chapter one by one.
func beats(n int, l []Bet, b Book) bool {
	for w := range n {
		paid, cost := 0, 0
		for i, x := range l {
			if b.Stakes[i] < -1e9 || b.Stakes[i] > 1e9 {
				return false
			}
			cost += b.Stakes[i] * x.Cents
			if in(x.Event, w) {
				paid += b.Stakes[i] * 12
			}
		}
		if paid-cost <= 0 {
			return false
		}
	}
	return len(b.Stakes) == len(l)
}

// take subtracts from a row so much of another one that it has nothing at a place.
func take(row, other []*big.Rat, at int) []*big.Rat {
	times := new(big.Rat).Quo(row[at], other[at])
	less := make([]*big.Rat, len(row))
	for i := range row {
		less[i] = new(big.Rat).Sub(row[i], new(big.Rat).Mul(times, other[i]))
	}
	return less
}

// drop returns equations (= 0) and inequalities (>= 0) that say what the given ones say of all unknowns but one: it puts in an equation, or else takes the inequalities in pairs.
func drop(equal, above [][]*big.Rat, at int) ([][]*big.Rat, [][]*big.Rat) {
	with := slices.IndexFunc(equal, func(row []*big.Rat) bool { return row[at].Sign() != 0 })
	var e, a [][]*big.Rat
	if with >= 0 {
		for i, row := range equal {
			if i != with {
				e = append(e, take(row, equal[with], at))
			}
		}
		for _, row := range above {
			a = append(a, take(row, equal[with], at))
		}
		return e, a
	}
	for _, row := range above {
		if row[at].Sign() == 0 {
			a = append(a, row)
		}
		for _, other := range above {
			if row[at].Sign() > 0 && other[at].Sign() < 0 {
				a = append(a, take(row, other, at))
			}
		}
	}
	return equal, a
}

// boundsOf returns the bounds of an event, and whether the bets are sound, by dropping the chances of all worlds from what is said of them and the event's chance, which stands behind them, before the constants.
func boundsOf(n int, l []Bet, event int) (low, high *big.Rat, ok bool) {
	row := func(set int, z, constant *big.Rat) []*big.Rat {
		var x []*big.Rat
		for w := range n {
			x = append(x, rat(set>>w&1, 1))
		}
		return append(x, z, constant)
	}
	equal := [][]*big.Rat{row(1<<n-1, rat(0, 1), rat(-1, 1)), row(event, rat(-1, 1), rat(0, 1))}
	for _, b := range l {
		equal = append(equal, row(b.Event, rat(0, 1), rat(-b.Cents, 12)))
	}
	above := [][]*big.Rat{row(0, rat(1, 1), rat(0, 1)), row(0, rat(-1, 1), rat(1, 1))}
	for w := range n {
		above = append(above, row(1<<w, rat(0, 1), rat(0, 1)))
	}
	for w := range n {
		equal, above = drop(equal, above, w)
	}
	for _, x := range equal {
		less := row(0, rat(0, 1), rat(0, 1))
		for i := range x {
			less[i].Neg(x[i])
		}
		above = append(above, x, less)
	}
	low, high = rat(0, 1), rat(1, 1)
	for _, x := range above {
		z, constant := x[n], x[n+1]
		switch {
		case z.Sign() == 0:
			if constant.Sign() < 0 {
				return nil, nil, false
			}
		case z.Sign() > 0:
			if end := new(big.Rat).Quo(new(big.Rat).Neg(constant), z); end.Cmp(low) > 0 {
				low = end
			}
		default:
			if end := new(big.Rat).Quo(new(big.Rat).Neg(constant), z); end.Cmp(high) < 0 {
				high = end
			}
		}
	}
	return low, high, low.Cmp(high) <= 0
}

// grid returns all beliefs on n worlds in parts of den, which are numbers of them.
func grid(n, den int) [][]int {
	if n == 1 {
		return [][]int{{den}}
	}
	var all [][]int
	for first := range den + 1 {
		for _, rest := range grid(n-1, den-first) {
			all = append(all, append([]int{first}, rest...))
		}
	}
	return all
}

func parts(b []int, event int) int {
	sum := 0
	for w, x := range b {
		if in(event, w) {
			sum += x
		}
	}
	return sum
}

// every calls f with all bets on n worlds of so many events at most, in rising order.
func every(n, most int, f func(l []Bet)) {
	var extend func(l []Bet, from int)
	extend = func(l []Bet, from int) {
		if len(l) > 0 {
			f(l)
		}
		for event := from; event < 1<<n && len(l) < most; event++ {
			for cents := range 13 {
				extend(append(slices.Clone(l), Bet{event, cents}), event+1)
			}
		}
	}
	extend(nil, 0)
}

// random returns bets on n worlds in any order, most of them sound ones: their prices are those of a belief in 12ths, or of one in smaller parts where they are whole, but for some that are changed.
func random(r *uint64, n int) []Bet {
	den := []int{12, 24, 36, 48, 60}[next(r, 5)]
	b := make([]int, n)
	for range den / 6 {
		b[next(r, n)] += 6
	}
	if next(r, 2) == 0 {
		from, to := next(r, n), next(r, n)
		moved := next(r, b[from]+1)
		b[from] -= moved
		b[to] += moved
	}
	var l []Bet
	most := 1 + next(r, 6)
	for range 100 {
		event := next(r, 1<<n)
		if len(l) < most && parts(b, event)*12%den == 0 && !slices.ContainsFunc(l, func(x Bet) bool { return x.Event == event }) {
			l = append(l, Bet{event, parts(b, event) * 12 / den})
		}
	}
	if len(l) == 0 {
		l = []Bet{{1<<n - 1, 12}}
	}
	if next(r, 3) == 0 {
		l[next(r, len(l))].Cents = next(r, 13)
	}
	return l
}

// on has bets on n worlds.
type on struct {
	n int
	l []Bet
}

// wrong returns what are no bets.
func wrong() []on {
	l := []Bet{{1, 4}}
	return []on{
		{1, l}, {6, l}, {0, l}, {-1, l}, {64, l}, {math.MinInt, l}, {math.MaxInt, l},
		{2, nil}, {2, []Bet{}},
		{3, []Bet{{1, 1}, {2, 1}, {3, 2}, {4, 1}, {5, 2}, {6, 2}, {7, 12}}},
		{2, []Bet{{-1, 1}}}, {2, []Bet{{4, 1}}}, {5, []Bet{{32, 1}}}, {2, []Bet{{math.MinInt, 1}}}, {2, []Bet{{math.MaxInt, 1}}},
		{2, []Bet{{1, -1}}}, {2, []Bet{{1, 13}}}, {2, []Bet{{1, math.MinInt}}}, {2, []Bet{{1, math.MaxInt}}},
		{2, []Bet{{1, 4}, {1, 4}}}, {2, []Bet{{1, 4}, {2, 8}, {1, 5}}},
		{2, []Bet{{1, 4}, {2, 13}}},
	}
}

// P9.1, P9.2, P9.3, P9.4: what are no bets is told first, with nothing else.
func TestWrongBets(t *testing.T) {
	half := []api.Frac{{Num: 1, Den: 2}, {Num: 1, Den: 2}}
	for _, x := range wrong() {
		if b, e := Sound(x.n, x.l); b != nil || e != api.ErrArg {
			t.Error(x, b, e)
		}
		if ok, e := Agrees(x.n, x.l, half); ok || e != api.ErrArg {
			t.Error(x, ok, e)
		}
		if b, e := Beat(x.n, x.l); b.Stakes != nil || e != api.ErrArg {
			t.Error(x, b, e)
		}
		if ok, e := Beats(x.n, x.l, Book{[]int{1}}); ok || e != api.ErrArg {
			t.Error(x, ok, e)
		}
		if low, high, e := Bounds(x.n, x.l, 1); low != (api.Frac{}) || high != (api.Frac{}) || e != api.ErrArg {
			t.Error(x, low, high, e)
		}
		if l, e := Price(x.n, x.l, 1); l != nil || e != api.ErrArg {
			t.Error(x, l, e)
		}
	}
}

// P9.3, P9.4: no event is told also where the bets are not sound.
func TestWrongEvent(t *testing.T) {
	for _, l := range [][]Bet{{{1, 4}}, {{0, 4}}} {
		for _, event := range []int{-1, 8, 9, math.MinInt, math.MaxInt} {
			if low, high, e := Bounds(3, l, event); low != (api.Frac{}) || high != (api.Frac{}) || e != api.ErrArg {
				t.Error(l, event, low, high, e)
			}
			if prices, e := Price(3, l, event); prices != nil || e != api.ErrArg {
				t.Error(l, event, prices, e)
			}
		}
	}
	if _, _, e := Bounds(3, []Bet{{0, 4}}, 7); e != api.ErrState {
		t.Error(e)
	}
	if l, e := Price(3, []Bet{{0, 4}}, 0); l != nil || e != api.ErrState {
		t.Error(l, e)
	}
}

// P9.1: the examples, and the ends of what bets may be.
func TestSoundExamples(t *testing.T) {
	for _, x := range []struct {
		n     int
		l     []Bet
		sound bool
	}{
		{2, []Bet{{1, 6}, {2, 8}}, false},
		{2, []Bet{{1, 4}}, true},
		{3, []Bet{{1, 4}, {2, 4}}, true},
		{2, []Bet{{0, 0}}, true}, {2, []Bet{{0, 1}}, false},
		{2, []Bet{{3, 12}}, true}, {2, []Bet{{3, 11}}, false},
		{5, []Bet{{31, 12}, {0, 0}, {1, 12}, {2, 0}, {4, 0}, {24, 0}}, true},
		{5, []Bet{{1, 3}, {2, 3}, {4, 3}, {8, 3}, {16, 0}, {31, 12}}, true},
		{5, []Bet{{1, 3}, {2, 3}, {4, 3}, {8, 3}, {16, 1}}, false},
		{3, []Bet{{3, 6}, {5, 6}, {6, 6}}, false},
		{3, []Bet{{3, 8}, {5, 8}, {6, 8}}, true},
	} {
		b, e := Sound(x.n, x.l)
		if x.sound && (!agrees(x.n, x.l, b) || e != api.OK) || !x.sound && (b != nil || e != api.ErrState) {
			t.Error(x, b, e)
		}
	}
}

// P9.1: Agrees takes all Fracs from 0 to 1 with a common multiple that is not too great, and those alone.
func TestAgrees(t *testing.T) {
	const most = 10_000_000_000
	l := []Bet{{1, 4}}
	for _, x := range []struct {
		b  []api.Frac
		ok bool
		e  api.Errno
	}{
		{[]api.Frac{{Num: 1, Den: 3}, {Num: 2, Den: 3}}, true, api.OK},
		{[]api.Frac{{Num: 1, Den: 3}, {Num: 1, Den: 3}}, false, api.OK},
		{[]api.Frac{{Num: 1, Den: 3}, {Num: 1, Den: 1}}, false, api.OK},
		{[]api.Frac{{Num: 2, Den: 3}, {Num: 1, Den: 3}}, false, api.OK},
		{[]api.Frac{{Num: 0, Den: 1}, {Num: 1, Den: 1}}, false, api.OK},
		{[]api.Frac{{Num: 1, Den: most}, {Num: most - 1, Den: most}}, false, api.OK},
		{[]api.Frac{{Num: 1, Den: 1024}, {Num: 1, Den: 9765625}}, false, api.OK},
		{[]api.Frac{{Num: 1, Den: most + 1}, {Num: 1, Den: 1}}, false, api.ErrArg},
		{[]api.Frac{{Num: 1, Den: 1}, {Num: 1, Den: most + 1}}, false, api.ErrArg},
		{[]api.Frac{{Num: 1, Den: 99991}, {Num: 1, Den: 100019}}, false, api.ErrArg},
		{[]api.Frac{{Num: 1, Den: most}, {Num: 1, Den: 3}}, false, api.ErrArg},
		{[]api.Frac{{Num: 1, Den: most}, {Num: 1, Den: most - 1}}, false, api.ErrArg},
		{[]api.Frac{{Num: 1, Den: math.MaxInt}, {Num: math.MaxInt - 1, Den: math.MaxInt}}, false, api.ErrArg},
		{[]api.Frac{{Num: 2, Den: 6}, {Num: 2, Den: 3}}, false, api.ErrArg},
		{[]api.Frac{{Num: 0, Den: 2}, {Num: 1, Den: 1}}, false, api.ErrArg},
		{[]api.Frac{{Num: 0, Den: 0}, {Num: 1, Den: 1}}, false, api.ErrArg},
		{[]api.Frac{{Num: 1, Den: 3}, {Num: -2, Den: -3}}, false, api.ErrArg},
		{[]api.Frac{{Num: 4, Den: 3}, {Num: -1, Den: 3}}, false, api.ErrArg},
		{[]api.Frac{{Num: 1, Den: 3}, {Num: 5, Den: 3}}, false, api.ErrArg},
		{[]api.Frac{{Num: 1, Den: 3}, {Num: -2, Den: 3}}, false, api.ErrArg},
		{[]api.Frac{{Num: math.MinInt, Den: 3}, {Num: 1, Den: math.MinInt}}, false, api.ErrArg},
		{[]api.Frac{{Num: 1, Den: 3}}, false, api.ErrArg},
		{[]api.Frac{{Num: 1, Den: 3}, {Num: 2, Den: 3}, {Num: 0, Den: 1}}, false, api.ErrArg},
		{nil, false, api.ErrArg},
	} {
		if ok, e := Agrees(2, l, x.b); ok != x.ok || e != x.e {
			t.Error(x, ok, e)
		}
	}
	if ok, e := Agrees(2, []Bet{{3, 12}}, []api.Frac{{Num: 1, Den: most}, {Num: most - 1, Den: most}}); !ok || e != api.OK {
		t.Error(ok, e)
	}
	if ok, e := Agrees(5, []Bet{{3, 5}, {31, 12}}, []api.Frac{{Num: 1, Den: 4}, {Num: 1, Den: 6}, {Num: 1, Den: 5}, {Num: 0, Den: 1}, {Num: 23, Den: 60}}); !ok || e != api.OK {
		t.Error(ok, e)
	}
}

// P9.1: Agrees is what the chapter says, for any beliefs in parts of 6, and also where they do not sum to 1.
func TestAgreesAll(t *testing.T) {
	r := uint64(1)
	agreed := 0
	for range 20000 {
		n := 2 + next(&r, 4)
		l := random(&r, n)
		left := 6
		b := make([]api.Frac, n)
		for w := range b {
			part := next(&r, left+1)
			if w == n-1 && next(&r, 5) > 0 {
				part = left
			}
			left -= part
			b[w] = lowestOf(part, 6)
		}
		want := agrees(n, l, b)
		if ok, e := Agrees(n, l, b); ok != want || e != api.OK {
			t.Fatal(n, l, b, ok, e)
		}
		if want {
			agreed++
		}
	}
	if agreed < 100 {
		t.Error(agreed)
	}
}

// oneOrOther checks that just one of Sound and Beat is OK, as sound says, and that each is what it should be.
func oneOrOther(t *testing.T, n int, l []Bet, sound bool) {
	given := slices.Clone(l)
	b, e := Sound(n, l)
	book, f := Beat(n, l)
	if !slices.Equal(l, given) {
		t.Fatal(n, l, given)
	}
	if !sound {
		ok, g := Beats(n, l, book)
		if b != nil || e != api.ErrState || f != api.OK || !beats(n, l, book) || !ok || g != api.OK {
			t.Fatal(n, l, b, e, book, f, ok, g)
		}
		return
	}
	ok, g := Agrees(n, l, b)
	if e != api.OK || book.Stakes != nil || f != api.ErrNone || !agrees(n, l, b) || !ok || g != api.OK {
		t.Fatal(n, l, b, e, book, f, ok, g)
	}
}

// P9.1, P9.2, P9.8: either a belief or a Book, for all bets on 2 worlds, and all of up to 3 ones on 3. A greatest or least chance comes with parts of 12 there, or of 24.
func TestOneOrOther(t *testing.T) {
	check := func(n, most, den int) {
		all := grid(n, den)
		every(n, most, func(l []Bet) {
			sound := slices.ContainsFunc(all, func(b []int) bool {
				return !slices.ContainsFunc(l, func(x Bet) bool { return parts(b, x.Event)*12 != x.Cents*den })
			})
			oneOrOther(t, n, l, sound)
		})
	}
	check(2, 4, 12)
	check(3, 3, 24)
}

// P9.1, P9.2, P9.8: likewise for any bets.
func TestOneOrOtherMore(t *testing.T) {
	r := uint64(2)
	sound := 0
	for range 8000 {
		n := 2 + next(&r, 4)
		l := random(&r, n)
		_, _, ok := boundsOf(n, l, 0)
		oneOrOther(t, n, l, ok)
		if ok {
			sound++
		}
	}
	if sound < 2000 || sound > 7000 {
		t.Error(sound)
	}
}

// P9.3, P9.4: the examples.
func TestBoundsExamples(t *testing.T) {
	thirds := api.Frac{Num: 2, Den: 3}
	if low, high, e := Bounds(2, []Bet{{1, 4}}, 2); low != thirds || high != thirds || e != api.OK {
		t.Error(low, high, e)
	}
	if l, e := Price(3, []Bet{{1, 4}, {2, 4}}, 4); !slices.Equal(l, []int{4}) || e != api.OK {
		t.Error(l, e)
	}
	if low, high, e := Bounds(3, []Bet{{3, 6}}, 1); low != (api.Frac{Num: 0, Den: 1}) || high != (api.Frac{Num: 1, Den: 2}) || e != api.OK {
		t.Error(low, high, e)
	}
	if l, e := Price(3, []Bet{{3, 6}}, 1); !slices.Equal(l, []int{0, 1, 2, 3, 4, 5, 6}) || e != api.OK {
		t.Error(l, e)
	}
	if l, e := Price(3, []Bet{{0, 0}}, 5); len(l) != 13 || e != api.OK {
		t.Error(l, e)
	}
	// no price is a whole number of Cents: the three worlds have 5/24 each
	odd := []Bet{{3, 5}, {5, 5}, {6, 5}}
	if low, high, e := Bounds(4, odd, 1); low != (api.Frac{Num: 5, Den: 24}) || high != low || e != api.OK {
		t.Error(low, high, e)
	}
	if l, e := Price(4, odd, 1); len(l) != 0 || e != api.OK {
		t.Error(l, e)
	}
}

// bounds checks Bounds and Price of an event, and returns the bounds.
func bounds(t *testing.T, n int, l []Bet, event int) (low, high *big.Rat, ok bool) {
	given := slices.Clone(l)
	wantLow, wantHigh, sound := boundsOf(n, l, event)
	first, last, e := Bounds(n, l, event)
	prices, f := Price(n, l, event)
	if !slices.Equal(l, given) {
		t.Fatal(n, l, given)
	}
	if !sound {
		if first != (api.Frac{}) || last != (api.Frac{}) || e != api.ErrState || prices != nil || f != api.ErrState {
			t.Fatal(n, l, event, first, last, e, prices, f)
		}
		return nil, nil, false
	}
	if !isFrac(first) || !isFrac(last) || e != api.OK || value(first).Cmp(wantLow) != 0 || value(last).Cmp(wantHigh) != 0 {
		t.Fatal(n, l, event, first, last, e, wantLow, wantHigh)
	}
	var want []int
	for cents := range 13 {
		if wantLow.Cmp(rat(cents, 12)) <= 0 && wantHigh.Cmp(rat(cents, 12)) >= 0 {
			want = append(want, cents)
		}
	}
	if !slices.Equal(prices, want) || f != api.OK {
		t.Fatal(n, l, event, prices, f, want)
	}
	return value(first), value(last), true
}

// P9.3, P9.4, P9.9: bounds and prices of all events, against chances that are dropped one by one; of an event and its complement together; and of the events that have a Bet.
func TestBounds(t *testing.T) {
	r := uint64(3)
	for range 600 {
		n := 2 + next(&r, 4)
		l := random(&r, n)
		for event := range 1 << n {
			low, high, ok := bounds(t, n, l, event)
			if !ok {
				continue
			}
			other, _, _ := bounds(t, n, l, 1<<n-1-event)
			if low.Cmp(high) > 0 || low.Sign() < 0 || high.Cmp(rat(1, 1)) > 0 || other.Add(other, high).Cmp(rat(1, 1)) != 0 {
				t.Fatal(n, l, event, low, high, other)
			}
			for _, x := range l {
				if x.Event == event && (low.Cmp(rat(x.Cents, 12)) != 0 || high.Cmp(low) != 0) {
					t.Fatal(n, l, event, low, high)
				}
			}
		}
	}
}

// P9.3: bounds of all events for all bets of up to 2 on 2 and 3 worlds, by looking at all beliefs in parts.
func TestBoundsAll(t *testing.T) {
	for n, den := range map[int]int{2: 12, 3: 24} {
		all := grid(n, den)
		every(n, 2, func(l []Bet) {
			for event := range 1 << n {
				low, high := den+1, -1
				for _, b := range all {
					if !slices.ContainsFunc(l, func(x Bet) bool { return parts(b, x.Event)*12 != x.Cents*den }) {
						low, high = min(low, parts(b, event)), max(high, parts(b, event))
					}
				}
				first, last, e := Bounds(n, l, event)
				if high < 0 && e != api.ErrState || high >= 0 && (e != api.OK || first.Num*den != low*first.Den || last.Num*den != high*last.Den) {
					t.Fatal(n, l, event, first, last, e, low, high)
				}
			}
		})
	}
}

// P9.4: a price is one at which a Bet more leaves the bets sound, also where there are 6 Bets already; where there is a Bet on the event, its price.
func TestPrice(t *testing.T) {
	r := uint64(4)
	full := 0
	for range 400 {
		n := 2 + next(&r, 4)
		l := random(&r, n)
		event := next(&r, 1<<n)
		prices, e := Price(n, l, event)
		if e != api.OK {
			continue
		}
		at := slices.IndexFunc(l, func(x Bet) bool { return x.Event == event })
		for cents := range 13 {
			_, _, want := boundsOf(n, append(slices.Clone(l), Bet{event, cents}), 0)
			if slices.Contains(prices, cents) != want || at >= 0 && want != (cents == l[at].Cents) {
				t.Fatal(n, l, event, prices, cents)
			}
		}
		if len(l) == 6 && at < 0 {
			full++
		}
	}
	if full == 0 {
		t.Error("no six Bets without the event")
	}
}

// P9.10: a Bet more never makes low less, or high greater.
func TestMore(t *testing.T) {
	r := uint64(5)
	for range 2000 {
		n := 2 + next(&r, 4)
		l := random(&r, n)
		event := next(&r, 1<<n)
		for k := 1; k < len(l); k++ {
			low, high, e := Bounds(n, l[:k], event)
			less, more, f := Bounds(n, l[:k+1], event)
			if f == api.OK && (e != api.OK || value(less).Cmp(value(low)) < 0 || value(more).Cmp(value(high)) > 0) {
				t.Fatal(n, l, event, k, low, high, less, more)
			}
		}
	}
}

// P9.1, P9.2: the order of the Bets changes nothing but which belief or Book it is, and the same call gives the same.
func TestOrder(t *testing.T) {
	r := uint64(6)
	for range 500 {
		n := 2 + next(&r, 4)
		l := random(&r, n)
		turned := slices.Clone(l)
		slices.Reverse(turned)
		_, e := Sound(n, l)
		_, f := Sound(n, turned)
		if e != f {
			t.Fatal(n, l, e, f)
		}
		b, _ := Sound(n, l)
		c, _ := Sound(n, slices.Clone(l))
		book, _ := Beat(n, l)
		other, _ := Beat(n, slices.Clone(l))
		if !reflect.DeepEqual(b, c) || !reflect.DeepEqual(book, other) {
			t.Fatal(n, l, b, c, book, other)
		}
	}
}
