package bets

import "planchet/api"

const maxStake = 1_000_000_000

// Beat returns a Book that beats bets. If there is one, there is also one that brings the same in some worlds, no less in the others, and whose stakes are settled by these worlds and by which Bets have a stake: a corner of all the Books that bring that much.
func Beat(n int, l []Bet) (Book, api.Errno) {
	if !areBets(n, l) {
		return Book{}, api.ErrArg
	}
	var stakes []int
	found := some(len(l), func(bets []int) bool {
		return some(n, func(worlds []int) bool {
			settled, ok := level(l, bets, worlds)
			stakes = settled
			return ok && beat(n, l, stakes)
		})
	})
	if !found {
		return Book{}, api.ErrNone
	}
	return Book{stakes}, api.OK
}

// Beats reports whether a Book beats bets.
func Beats(n int, l []Bet, b Book) (bool, api.Errno) {
	if !areBets(n, l) {
		return false, api.ErrArg
	}
	return len(b.Stakes) == len(l) && all(b.Stakes, within(-maxStake, maxStake)) && beat(n, l, b.Stakes), api.OK
}

// level returns the least stakes for some bets alone that bring the same, above 0, in some worlds, and whether that settles them. They are far from the limits: even before they are made as small as can be, they are determinants of 5 rows at most, which have a 1 and 4 numbers up to 12.
func level(l []Bet, bets, worlds []int) ([]int, bool) {
	var rows [][]int
	for _, w := range worlds {
		var row []int
		for _, i := range bets {
			row = append(row, l[i].gain(w))
		}
		rows = append(rows, append(row, 1))
	}
	tickets, ok := solve(rows)
	if !ok {
		return nil, false
	}
	common := 0
	for _, num := range tickets.nums {
		common = divisor(common, max(num, -num))
	}
	stakes := make([]int, len(l))
	for at, i := range bets {
		stakes[i] = tickets.nums[at] / common
	}
	return stakes, true
}

// beat reports whether stakes bring more than they cost in every world.
func beat(n int, l []Bet, stakes []int) bool {
	for world := range n {
		sum := 0
		for i, b := range l {
			sum += stakes[i] * b.gain(world)
		}
		if sum <= 0 {
			return false
		}
	}
	return true
}

// gain returns what a ticket pays in a world, less what it cost.
func (b Bet) gain(world int) int { return pays*(b.Event>>world&1) - b.Cents }
