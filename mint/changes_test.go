package mint

import (
	"math/big"
	"slices"
	"strconv"
	"strings"
	"testing"

	"planchet/api"
	"planchet/weigh"
)

// text joins words and numbers to a line.
func text(first string, numbers ...int) string {
	for _, n := range numbers {
		first += " " + strconv.Itoa(n)
	}
	return first
}

// P10.3, P10.4: a new mint has nothing but one Good coin.
func TestNothingYet(t *testing.T) {
	m := opened(t)
	all := "0 1 2 3 4 5 6 7 8 9 10 11 12"
	want := "roll\n\n\n\nneed 0\nbound 0\n" + strings.Repeat("price "+all+"\n", 6) + "price 12\n"
	if got := m.State(); got != want {
		t.Errorf("%q", got)
	}
	wantReply(t, m, "roll", "roll")
	wantNoReply(t, m, "ways", api.ErrNone)
	wantNoReply(t, m, "order", api.ErrNone)
	wantNoReply(t, m, "kings", api.ErrNone)
	wantReply(t, m, "need", "need 0")
	wantReply(t, m, "bound", "bound 0")
	wantReply(t, m, "price 0", "price 0")
	// One Good coin has none to be weighed against.
	wantRefused(t, m, "pan 0 0 0 1", api.ErrArg)
}

// P10.3: medals: at most 6 different ones; that one is there is told first.
func TestMedals(t *testing.T) {
	m := opened(t)
	for i, name := range []string{"f", "e", "d", "c", "b", "a"} {
		wantDone(t, m, "medal "+name)
		wantRefused(t, m, "medal "+name, api.ErrState)
		if n := len(strings.Fields(m.State()[:strings.Index(m.State(), "\n")])); n != i+2 {
			t.Error(n)
		}
	}
	wantReply(t, m, "roll", "roll f e d c b a")
	wantReply(t, m, "ways", "ways 720")
	wantRefused(t, m, "medal g", api.ErrFull)
	wantRefused(t, m, "medal f", api.ErrState)
	wantDone(t, m, "player g")
	wantDone(t, m, "player f")
}

// P10.3: the first example, and what follows from two lines of above: they are free no more.
func TestAbove(t *testing.T) {
	m := opened(t, "medal gold", "medal iron", "above gold iron")
	wantReply(t, m, "roll", "roll iron gold")
	wantReply(t, m, "ways", "ways 1")
	wantDone(t, m, "medal tin")
	wantReply(t, m, "chance iron tin", "chance 2/3")
	wantReply(t, m, "chance tin iron", "chance 1/3")
	wantReply(t, m, "chance iron gold", "chance 1/1")
	wantReply(t, m, "chance gold iron", "chance 0/1")
	wantReply(t, m, "ways", "ways 3")
	wantRefused(t, m, "above gold iron", api.ErrState)
	wantRefused(t, m, "above iron gold", api.ErrState)
	wantRefused(t, m, "above tin tin", api.ErrState)
	wantRefused(t, m, "above lead lead", api.ErrNone)
	wantRefused(t, m, "above gold lead", api.ErrNone)
	wantRefused(t, m, "above lead gold", api.ErrNone)
	wantDone(t, m, "above iron tin")
	wantReply(t, m, "roll", "roll tin iron gold")
	wantRefused(t, m, "above gold tin", api.ErrState)
	wantRefused(t, m, "above tin gold", api.ErrState)
	wantDone(t, m, "player lead")
	wantRefused(t, m, "above gold lead", api.ErrNone)
}

// P10.3: players: at most 8 different ones; all others beat the last one.
func TestPlayers(t *testing.T) {
	m := opened(t)
	reply := "order"
	for _, name := range []string{"h", "g", "f", "e", "d", "c", "b", "a"} {
		wantDone(t, m, "player "+name)
		wantRefused(t, m, "player "+name, api.ErrState)
		reply += " " + name
		wantReply(t, m, "order", reply)
		wantReply(t, m, "kings", "kings h")
	}
	wantRefused(t, m, "player i", api.ErrFull)
	wantRefused(t, m, "player a", api.ErrState)
	wantDone(t, m, "medal i")
}

// P10.3: the second example, and a cycle, in which all are kings.
func TestBeat(t *testing.T) {
	m := opened(t, "player ada", "player bob")
	wantReply(t, m, "order", "order ada bob")
	wantRefused(t, m, "beat ada bob", api.ErrState)
	wantDone(t, m, "beat bob ada")
	wantReply(t, m, "order", "order bob ada")
	wantReply(t, m, "kings", "kings bob")
	wantRefused(t, m, "beat bob ada", api.ErrState)
	wantRefused(t, m, "beat bob bob", api.ErrState)
	wantRefused(t, m, "beat cid cid", api.ErrNone)
	wantRefused(t, m, "beat bob cid", api.ErrNone)
	wantRefused(t, m, "beat cid bob", api.ErrNone)
	wantDone(t, m, "beat ada bob")
	wantReply(t, m, "order", "order ada bob")
	wantDone(t, m, "player cid")
	wantReply(t, m, "order", "order ada bob cid")
	wantDone(t, m, "beat cid ada")
	wantReply(t, m, "order", "order ada bob cid")
	wantReply(t, m, "kings", "kings ada bob cid")
	wantDone(t, m, "medal dan")
	wantRefused(t, m, "beat cid dan", api.ErrNone)
}

// P10.3: the third example.
func TestBatch(t *testing.T) {
	m := opened(t, "batch 12 0 0 0")
	wantReply(t, m, "need", "need 3")
	wantReply(t, m, "bound", "bound 3")
	wantDone(t, m, "batch 9 0 0 4")
	wantDone(t, m, "pan 4 0 0 0")
	wantReply(t, m, "bound", "bound 3")
	// Now 5 Both and 8 Good are there.
	wantRefused(t, m, "pan 6 0 0 0", api.ErrArg)
	wantDone(t, m, "pan 5 0 0 0")
	wantReply(t, m, "need", "need 0")
	wantDone(t, m, "batch 1 0 0 0")
	wantNoReply(t, m, "need", api.ErrNone)
	wantReply(t, m, "bound", "bound 1")
	if !strings.Contains(m.State(), "\n\nbound 1\n") {
		t.Errorf("%q", m.State())
	}
}

// P10.3: a batch is any Known with None set, and nothing else.
func TestBatches(t *testing.T) {
	m := opened(t)
	for _, k := range [][4]int{{0, 0, 0, 0}, {13, 0, 0, 13}, {0, 13, 0, 0}, {0, 0, 13, 13}, {4, 4, 5, 13}} {
		wantDone(t, m, text("batch", k[:]...))
		n, e := weigh.Bound(weigh.Known{Both: k[0], Heavy: k[1], Light: k[2], Good: k[3], None: true})
		wantReply(t, m, "bound", text("bound", n))
		want(t, e, api.OK)
	}
	for _, k := range [][4]int{{14, 0, 0, 0}, {0, 14, 0, 0}, {0, 0, 14, 0}, {0, 0, 0, 14}, {5, 5, 4, 0}, {13, 1, 0, 0}, {0, 13, 1, 0}, {1, 0, 13, 0}, {999, 999, 999, 999}} {
		wantRefused(t, m, text("batch", k[:]...), api.ErrArg)
	}
}

// P10.3: what is weighed must be there, with as many Good on the right pan as coins are on the left one, and at least one.
func TestPans(t *testing.T) {
	for b := range 3 {
		for h := range 3 {
			for l := range 3 {
				for _, g := range []int{0, 1, 3, 4, 8} {
					testPans(t, b, h, l, g)
				}
			}
		}
	}
	m := opened(t, "batch 4 4 5 13")
	wantRefused(t, m, "pan 0 0 0 0", api.ErrArg)
	wantRefused(t, m, "pan 999 999 999 999", api.ErrArg)
	wantDone(t, m, "pan 4 4 5 0")
	wantReply(t, m, "need", "need 0")
	wantRefused(t, m, "pan 1 0 0 0", api.ErrArg)
	wantDone(t, m, "pan 0 0 0 6")
	wantRefused(t, m, "pan 0 0 0 7", api.ErrArg)
	m = opened(t, "batch 13 0 0 6", "pan 6 0 0 0", "pan 6 0 0 0")
	wantReply(t, m, "bound", "bound 1")
	wantDone(t, m, "pan 0 0 0 6")
	wantRefused(t, m, "pan 0 0 0 7", api.ErrArg)
}

// testPans tries what can be put on the left pan for a batch.
func testPans(t *testing.T, b, h, l, g int) {
	for x := range b + 2 {
		for y := range h + 2 {
			for z := range l + 2 {
				for w := range 3 {
					m := opened(t, text("batch", b, h, l, g))
					all := x + y + z + w
					if x > b || y > h || z > l || all+w > g || all == 0 {
						wantRefused(t, m, text("pan", x, y, z, w), api.ErrArg)
						continue
					}
					wantDone(t, m, text("pan", x, y, z, w))
					wantSame(t, m, opened(t, text("batch", b-x, h-y, l-z, min(13, g+x+y+z))))
				}
			}
		}
	}
}

// wantSame holds the states of two mints against each other.
func wantSame(t *testing.T, m, n *Mint) {
	t.Helper()
	if m.State() != n.State() {
		t.Errorf("%q after %q, but %q after %q", m.State(), m.Journal(), n.State(), n.Journal())
	}
}

// P10.3: the fourth example; what is no bet, or one on the same event, or none that some belief agrees with.
func TestBets(t *testing.T) {
	m := opened(t, "bet 1 4", "bet 2 4")
	wantReply(t, m, "price 4", "price 4")
	wantReply(t, m, "price 3", "price 8")
	wantRefused(t, m, "bet 1 4", api.ErrState)
	wantRefused(t, m, "bet 1 13", api.ErrArg)
	wantRefused(t, m, "bet 0 0", api.ErrArg)
	wantRefused(t, m, "bet 7 12", api.ErrArg)
	wantRefused(t, m, "bet 0 13", api.ErrArg)
	wantRefused(t, m, "bet 999 999", api.ErrArg)
	for cents := range 13 {
		if cents != 8 {
			wantRefused(t, m, text("bet", 3, cents), api.ErrState)
		}
	}
	for _, s := range []string{"bet 3 8", "bet 6 8", "bet 5 8", "bet 4 4"} {
		wantDone(t, m, s)
	}
	for event, reply := range []string{"price 0", "price 4", "price 4", "price 8", "price 4", "price 8", "price 8", "price 12"} {
		wantReply(t, m, text("price", event), reply)
	}
	for event := 1; event <= 6; event++ {
		wantRefused(t, m, text("bet", event, 4), api.ErrState)
	}
}

// P10.3, P10.10: any bets one after the other are taken where the chances in 12ths that agree with all before leave it open, and those are the prices.
func TestPrices(t *testing.T) {
	r := uint64(5)
	for range 150 {
		m := opened(t)
		left := beliefs()
		for range 12 {
			event, cents := 1+next(&r, 6), next(&r, 13)
			more := agreeing(left, event, cents)
			if len(more) == 0 || strings.Contains(strings.Join(m.Journal(), "\n"), text("bet", event)) {
				wantRefused(t, m, text("bet", event, cents), api.ErrState)
			} else {
				wantDone(t, m, text("bet", event, cents))
				left = more
			}
			for e := range 8 {
				reply := "price"
				for c := range 13 {
					if len(agreeing(left, e, c)) > 0 {
						reply = text(reply, c)
					}
				}
				wantReply(t, m, text("price", e), reply)
			}
		}
	}
}

// beliefs returns all chances of three worlds in 12ths.
func beliefs() [][3]int {
	var l [][3]int
	for a := range 13 {
		for b := range 13 - a {
			l = append(l, [3]int{a, b, 12 - a - b})
		}
	}
	return l
}

// agreeing returns those in l that give an event these 12ths.
func agreeing(l [][3]int, event, cents int) [][3]int {
	var left [][3]int
	for _, b := range l {
		if event&1*b[0]+event>>1&1*b[1]+event>>2*b[2] == cents {
			left = append(left, b)
		}
	}
	return left
}

// permutations calls f with each order of 0 to n - 1, rising.
func permutations(n int, f func(order []int)) {
	var grow func(order []int)
	grow = func(order []int) {
		if len(order) == n {
			f(order)
			return
		}
		for i := range n {
			if !slices.Contains(order, i) {
				grow(append(slices.Clone(order), i))
			}
		}
	}
	grow(nil)
}

// linesOf returns all orders of n medals, rising, in which for each pair above the second one stands before the first one.
func linesOf(n int, above [][2]int) [][]int {
	var l [][]int
	permutations(n, func(order []int) {
		for _, p := range above {
			if slices.Index(order, p[1]) > slices.Index(order, p[0]) {
				return
			}
		}
		l = append(l, order)
	})
	return l
}

// before returns how many of the orders have i before j.
func before(l [][]int, i, j int) int {
	n := 0
	for _, order := range l {
		if slices.Index(order, i) < slices.Index(order, j) {
			n++
		}
	}
	return n
}

// spelled returns a line of a first word and the names with these numbers.
func spelled(first string, names []string, numbers []int) string {
	for _, i := range numbers {
		first += " " + names[i]
	}
	return first
}

// P10.3, P10.8, P10.13: any medals one above the other, held against all orders of them: which pairs are free, the roll, the ways and the chances.
func TestMedalsAnyWay(t *testing.T) {
	r := uint64(3)
	for round := range 60 {
		names := []string{"gold", "iron", "tin", "lead", "zinc", "brass"}[:1+round%6]
		m := opened(t)
		for _, name := range names {
			wantDone(t, m, "medal "+name)
		}
		n := len(names)
		var above [][2]int
		for range 2 * n {
			i, j := next(&r, n), next(&r, n)
			all := linesOf(n, above)
			s := "above " + names[i] + " " + names[j]
			if k := before(all, i, j); i == j || k == 0 || k == len(all) {
				wantRefused(t, m, s, api.ErrState)
			} else {
				wantDone(t, m, s)
				above = append(above, [2]int{i, j})
			}
		}
		wantLines(t, m, names, linesOf(n, above))
	}
}

func wantLines(t *testing.T, m *Mint, names []string, all [][]int) {
	t.Helper()
	wantReply(t, m, "roll", spelled("roll", names, all[0]))
	wantReply(t, m, "ways", text("ways", len(all)))
	for i := range names {
		for j := range names {
			s := "chance " + names[i] + " " + names[j]
			if i == j {
				wantNoReply(t, m, s, api.ErrArg)
				continue
			}
			f := big.NewRat(int64(before(all, i, j)), int64(len(all)))
			wantReply(t, m, s, "chance "+f.Num().String()+"/"+f.Denom().String())
		}
	}
}

// results are the tournament of some players: whether i beats j.
type results [8][8]bool

// best returns the first of the orders of n players that go against the fewest results.
func (x *results) best(n int) []int {
	var first []int
	least := n * n
	permutations(n, func(order []int) {
		against := 0
		for at, i := range order {
			for _, j := range order[:at] {
				if x[i][j] {
					against++
				}
			}
		}
		if against < least {
			first, least = order, against
		}
	})
	return first
}

// kings returns those of n players who beat all others, or someone who beats them.
func (x *results) kings(n int) []int {
	var kings []int
	for i := range n {
		all := true
		for j := range n {
			there := i == j || x[i][j]
			for k := range n {
				there = there || x[i][k] && x[k][j]
			}
			all = all && there
		}
		if all {
			kings = append(kings, i)
		}
	}
	return kings
}

// P10.3, P10.9: any players and results, held against all orders of them.
func TestPlayersAnyWay(t *testing.T) {
	r := uint64(4)
	names := []string{"ada", "bob", "cid", "dan", "eve", "fay", "guy", "hal"}
	for range 40 {
		m := opened(t)
		var x results
		n := 0
		for range 20 {
			i, j := next(&r, 6), next(&r, 6)
			s := "beat " + names[i] + " " + names[j]
			switch {
			case n < 6 && next(&r, 3) == 0:
				wantDone(t, m, "player "+names[n])
				for k := range n {
					x[k][n] = true
				}
				n++
			case i >= n || j >= n:
				wantRefused(t, m, s, api.ErrNone)
			case i == j || x[i][j]:
				wantRefused(t, m, s, api.ErrState)
			default:
				wantDone(t, m, s)
				x[i][j], x[j][i] = true, false
			}
			if n == 0 {
				wantNoReply(t, m, "order", api.ErrNone)
				wantNoReply(t, m, "kings", api.ErrNone)
				continue
			}
			wantReply(t, m, "order", spelled("order", names, x.best(n)))
			wantReply(t, m, "kings", spelled("kings", names, x.kings(n)))
		}
	}
}
