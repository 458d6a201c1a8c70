// Package weigh is layer 1: see shared/doc/01-weigh.md.
package weigh

import "planchet/api"

// Known is what is known of coins.
type Known struct {
	Both, Heavy, Light, Good int
	None                     bool
}

// Load is what is put on the two pans.
type Load struct{ Both, Heavy, Light, Good [2]int }

// The results of a weighing. Plans place coins with the same numbers, so a false coin that is heavier gives its own places as results.
const (
	leftHeavier = iota - 1
	alike
	rightHeavier
)

// The indices of the pans in a Load.
const (
	left = iota
	right
)

// After returns what is known after a weighing.
func After(k Known, l Load, result int) (Known, api.Errno) {
	if !valid(k) || !fits(k, l) || !isSign(result) {
		return Known{}, api.ErrArg
	}
	next := after(k, l, result)
	if possibilities(next) == 0 {
		return Known{}, api.ErrNone
	}
	return next, api.OK
}

// Bound returns the bound by counting.
func Bound(k Known) (int, api.Errno) {
	if !valid(k) {
		return 0, api.ErrArg
	}
	return fewest(possibilities(k)), api.OK
}

// valid holds each number against its limit before it adds any, so that no sum overflows.
func valid(k Known) bool {
	for _, n := range [4]int{k.Both, k.Heavy, k.Light, k.Good} {
		if n < 0 || n > api.MaxCoins {
			return false
		}
	}
	return suspects(k) <= api.MaxCoins && possibilities(k) > 0
}

func suspects(k Known) int { return k.Both + k.Heavy + k.Light }

func possibilities(k Known) int {
	n := 2*k.Both + k.Heavy + k.Light
	if k.None {
		n++
	}
	return n
}

func isSign(n int) bool { return n >= -1 && n <= 1 }

// fits reports whether l is a Load for k.
func fits(k Known, l Load) bool {
	enough := laid(l.Both, k.Both) && laid(l.Heavy, k.Heavy) && laid(l.Light, k.Light) && laid(l.Good, k.Good)
	return enough && onPan(l, left) == onPan(l, right) && onPan(l, left) > 0
}

// laid reports whether the two pans can have so many of a sort of which there are n. It subtracts, since a sum of any two numbers may overflow.
func laid(pans [2]int, n int) bool {
	return pans[left] >= 0 && pans[right] >= 0 && pans[right] <= n-pans[left]
}

func onPan(l Load, pan int) int { return l.Both[pan] + l.Heavy[pan] + l.Light[pan] + l.Good[pan] }

// after is After for a valid Known and a Load for it; it may leave no possibility.
func after(k Known, l Load, result int) Known {
	var next Known
	switch result {
	case leftHeavier:
		next = tilted(l, left, right)
	case rightHeavier:
		next = tilted(l, right, left)
	default:
		next = Known{Both: aside(k.Both, l.Both), Heavy: aside(k.Heavy, l.Heavy), Light: aside(k.Light, l.Light), None: k.None}
	}
	next.Good = min(k.Good+suspects(k)-suspects(next), api.MaxCoins)
	return next
}

// tilted returns the suspects when the pan down is the heavier one.
func tilted(l Load, down, up int) Known {
	return Known{Heavy: l.Both[down] + l.Heavy[down], Light: l.Both[up] + l.Light[up]}
}

func aside(n int, pans [2]int) int { return n - pans[left] - pans[right] }

// fewest returns the least number of weighings, with three results each, that can tell n cases apart.
func fewest(n int) int {
	count := 0
	for power := 1; power < n; power *= 3 {
		count++
	}
	return count
}
