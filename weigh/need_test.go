package weigh

import (
	"testing"

	"planchet/api"
)

// never stands for the need of what has none.
const never = 1000

func needOf(t *testing.T, k Known) int {
	n, e := Need(k)
	if e == api.ErrNone && n == 0 {
		return never
	}
	if e != api.OK {
		t.Error(k, n, e)
	}
	return n
}

// P1.2, P1.8: the needs that the chapter names, and small ones.
func TestNeed(t *testing.T) {
	for _, x := range []struct {
		k    Known
		want int
	}{
		{Known{Both: 12}, 3}, {Known{Both: 12, None: true}, 3}, {Known{Both: 13}, 4}, {Known{Both: 13, None: true}, 4},
		{Known{Both: 13, Good: 1}, 3}, {Known{Both: 13, Good: 1, None: true}, 3}, {Known{Both: 13, Good: 13, None: true}, 3},
		{Known{Both: 2}, never}, {Known{Both: 2, Good: 1}, 2}, {Known{Both: 1}, never}, {Known{Both: 1, Good: 1}, 1}, {Known{Both: 1, Good: 1, None: true}, 1},
		{Known{Heavy: 1}, 0}, {Known{Light: 1}, 0}, {Known{None: true}, 0}, {Known{Good: 13, None: true}, 0},
		{Known{Heavy: 1, None: true}, never}, {Known{Light: 1, None: true}, never}, {Known{Heavy: 1, Light: 1}, never}, {Known{Heavy: 1, Light: 1, Good: 1}, 1},
		{Known{Heavy: 3}, 1}, {Known{Heavy: 9}, 2}, {Known{Heavy: 10}, 3}, {Known{Light: 13}, 3}, {Known{Both: 3}, 2}, {Known{Both: 4}, 3}, {Known{Heavy: 2, None: true}, 1},
	} {
		if got := needOf(t, x.k); got != x.want {
			t.Error(x, got)
		}
	}
}

// worlds finds needs with coins one by one: a world is a false coin with its kind, or that there is none.
type worlds struct {
	results [][]int // for each way to weigh, the result in each world
	needs   map[int]int
}

func newWorlds(k Known) (worlds, int) {
	coins := laidOut(k, Load{})
	type world struct{ coin, sign int }
	var all []world
	for i, c := range coins {
		if c.heavy {
			all = append(all, world{i, 1})
		}
		if c.light {
			all = append(all, world{i, -1})
		}
	}
	if k.None {
		all = append(all, world{-1, 0})
	}
	w := worlds{needs: map[int]int{}}
	places := make([]int, len(coins))
	var lay func(i, sum, on int)
	lay = func(i, sum, on int) {
		if i == len(coins) {
			if sum != 0 || on == 0 {
				return
			}
			results := make([]int, len(all))
			for j, x := range all {
				if x.sign != 0 {
					results[j] = x.sign * places[x.coin]
				}
			}
			w.results = append(w.results, results)
			return
		}
		for places[i] = -1; places[i] <= 1; places[i]++ {
			lay(i+1, sum+places[i], on+places[i]*places[i])
		}
	}
	lay(0, 0, 0)
	return w, 1<<len(all) - 1
}

func (w worlds) need(set int) int {
	if set&(set-1) == 0 {
		return 0
	}
	if n, ok := w.needs[set]; ok {
		return n
	}
	best := never
	for _, results := range w.results {
		var parts [3]int
		for i, r := range results {
			parts[r+1] |= set & (1 << i)
		}
		worst := 0
		for _, part := range parts {
			if part == set {
				worst = never
			} else {
				worst = max(worst, w.need(part))
			}
		}
		best = min(best, worst+1, never)
	}
	w.needs[set] = best
	return best
}

// P1.2: the needs of few coins, against the coins one by one.
func TestNeedWorlds(t *testing.T) {
	everyKnown(5, 2, func(k Known) {
		if k.Both+k.Heavy+k.Light+k.Good > 5 {
			return
		}
		w, all := newWorlds(k)
		if got, want := needOf(t, k), w.need(all); got != want {
			t.Error(k, got, want)
		}
	})
}

// P1.2: Best is a Load after which the need is less; where there is none, need is 0 or there is none.
func TestBest(t *testing.T) {
	everyKnown(api.MaxCoins, 1, func(k Known) { checkBest(t, k) })
	everyKnown(4, api.MaxCoins, func(k Known) { checkBest(t, k) })
	l, e := Best(Known{Heavy: 3})
	if l != (Load{Heavy: [2]int{1, 1}}) || e != api.OK {
		t.Error(l, e)
	}
}

func checkBest(t *testing.T, k Known) {
	need := needOf(t, k)
	l, e := Best(k)
	if need == 0 || need == never {
		if l != (Load{}) || e != api.ErrNone {
			t.Error(k, l, e)
		}
		return
	}
	if e != api.OK {
		t.Error(k, l, e)
		return
	}
	for result := -1; result <= 1; result++ {
		next, e := After(k, l, result)
		if e == api.ErrNone {
			continue
		}
		if e != api.OK || needOf(t, next) >= need {
			t.Error(k, l, result, next, e)
		}
	}
}

// P1.2, P1.8: need is at least Bound, and with Good coins and just Heavy and Light ones it is Bound. P1.9: a Good coin more, and exchanging Heavy and Light.
func TestNeeds(t *testing.T) {
	needs := map[Known]int{}
	everyKnown(api.MaxCoins, api.MaxCoins, func(k Known) { needs[k] = needOf(t, k) })
	for k, n := range needs {
		bound, e := Bound(k)
		if n < bound || e != api.OK {
			t.Error("bound", k, n, bound, e)
		}
		if k.Both == 0 && k.Good > 0 && !k.None && n != bound {
			t.Error("Heavy and Light alone", k, n, bound)
		}
		more := k
		more.Good++
		if m, ok := needs[more]; ok && m > n {
			t.Error("Good", k, n, m)
		}
		turned := k
		turned.Heavy, turned.Light = k.Light, k.Heavy
		if needs[turned] != n {
			t.Error("exchange", k, n, needs[turned])
		}
	}
}
