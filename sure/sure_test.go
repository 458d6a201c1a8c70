package sure

import (
	"math"
	"reflect"
	"slices"
	"testing"

	"planchet/api"
)

// cycle is example 1: five signals in a cycle.
var cycle = []int{18, 5, 10, 20, 9}

// graphOf returns the graph of n signals in which a pair i, j with i < j are neighbours if its bit is set, the pairs in order.
func graphOf(n, set int) []int {
	g := make([]int, n)
	bit := 0
	for i := range n {
		for j := i + 1; j < n; j++ {
			if set>>bit&1 == 1 {
				g[i] += 1 << j
				g[j] += 1 << i
			}
			bit++
		}
	}
	return g
}

// everyGraph calls f with each graph of n signals, and if step is more than 1 only with each one of so many.
func everyGraph(n, step int, f func(g []int)) {
	for set := 0; set < 1<<(n*(n-1)/2); set += step {
		f(graphOf(n, set))
	}
}

// graphs calls f with each graph of up to 5 signals, and with some of 6.
func graphs(step int, f func(g []int)) {
	for n := 1; n <= 5; n++ {
		everyGraph(n, 1, f)
	}
	everyGraph(6, step, f)
}

func neighbours(g []int, i, j int) bool { return g[i]&(1<<j) != 0 }

// someChannels calls f with each channel of up to 3 signals with 3 outputs, and with n of each number of signals and outputs.
func someChannels(n int, f func(channel []int)) {
	for size := 1; size <= 3; size++ {
		for number := range 343 {
			var channel []int
			for rest := number; len(channel) < size; rest /= 7 {
				channel = append(channel, 1+rest%7)
			}
			f(channel)
		}
	}
	r := uint64(5)
	for size := 1; size <= api.MaxSignals; size++ {
		for outputs := 1; outputs <= 8; outputs++ {
			for range n {
				f(someChannel(size, outputs, &r))
			}
		}
	}
}

func someChannel(size, outputs int, r *uint64) []int {
	var channel []int
	for range size {
		*r = *r*6364136223846793005 + 1442695040888963407
		channel = append(channel, 1+int(*r>>33)%(1<<outputs-1))
	}
	return channel
}

var badChannels = [][]int{
	nil, {}, {0}, {256}, {-1}, {3, 0}, {0, 3}, {3, 256}, {1, 2, 3, 4, 5, 6, 7}, make([]int, 100000),
	{math.MaxInt}, {math.MinInt}, {1, math.MaxInt}, {1 << 32}, {1 - 1<<32},
}

var badGraphs = [][]int{
	nil, {}, {1}, {2}, {-1}, {0, 1}, {2, 0}, {2, 2}, {3, 1}, {1, 0}, {2, 3}, {2, 5}, {6, 1}, {0, 4}, {2, 1 + 1<<40},
	{0, 0, 0, 0, 0, 0, 0}, make([]int, 100000), {math.MaxInt}, {math.MinInt}, {2, 1 + math.MinInt}, {18, 5, 10, 20, 8}, {-2, 1},
}

// P5.1: the neighbours are the different signals that have an output in common.
func TestConfusions(t *testing.T) {
	someChannels(10, func(channel []int) {
		g, e := Confusions(channel)
		if len(g) != len(channel) || e != api.OK {
			t.Fatal(channel, g, e)
		}
		for i := range channel {
			for j := range channel {
				common := false
				for output := range 8 {
					common = common || channel[i]&(1<<output) != 0 && channel[j]&(1<<output) != 0
				}
				if neighbours(g, i, j) != (i != j && common) {
					t.Error(channel, g, i, j)
				}
			}
		}
		if !isGraph(g) {
			t.Error(channel, g)
		}
	})
	for _, channel := range badChannels {
		if g, e := Confusions(channel); len(g) != 0 || e != api.ErrArg {
			t.Error(len(channel), g, e)
		}
	}
	if g, e := Confusions([]int{255, 128}); !slices.Equal(g, []int{2, 1}) || e != api.OK {
		t.Error(g, e)
	}
}

// P5.6: pairs are neighbours if both their parts are the same or neighbours, and are not the same.
func TestJoin(t *testing.T) {
	for n := 1; n <= 6; n++ {
		for m := 1; n*m <= 6; m++ {
			everyGraph(n, max(1, n-4)*16-15, func(g []int) {
				everyGraph(m, max(1, m-4)*16-15, func(h []int) {
					l, e := Join(g, h)
					if !reflect.DeepEqual(l, joined(g, h)) || e != api.OK {
						t.Error(g, h, l, e)
					}
				})
			})
		}
	}
}

func joined(g, h []int) []int {
	l := make([]int, len(g)*len(h))
	same := func(g []int, i, j int) bool { return i == j || neighbours(g, i, j) }
	for i := range g {
		for j := range h {
			for a := range g {
				for b := range h {
					if same(g, i, a) && same(h, j, b) && (i != a || j != b) {
						l[i*len(h)+j] |= 1 << (a*len(h) + b)
					}
				}
			}
		}
	}
	return l
}

// P5.6: the signals of both, no two of both being neighbours.
func TestSum(t *testing.T) {
	for n := 1; n <= 5; n++ {
		for m := 1; n+m <= 6; m++ {
			everyGraph(n, 1, func(g []int) {
				everyGraph(m, 1, func(h []int) {
					l, e := Sum(g, h)
					if len(l) != n+m || e != api.OK {
						t.Fatal(g, h, l, e)
					}
					for i := range l {
						for j := range l {
							want := i < n && j < n && neighbours(g, i, j) || i >= n && j >= n && neighbours(h, i-n, j-n)
							if neighbours(l, i, j) != want {
								t.Error(g, h, l, i, j)
							}
						}
					}
				})
			})
		}
	}
}

// P5.6: ErrArg for what is no graph, also beside a graph that is too large; ErrSize above 6 signals.
func TestJoinAndSumErrors(t *testing.T) {
	for _, bad := range badGraphs {
		for _, g := range [][]int{{0}, {2, 1}, cycle, graphOf(6, 0)} {
			for _, both := range [][2][]int{{g, bad}, {bad, g}, {bad, bad}} {
				if l, e := Join(both[0], both[1]); len(l) != 0 || e != api.ErrArg {
					t.Error(both, l, e)
				}
				if l, e := Sum(both[0], both[1]); len(l) != 0 || e != api.ErrArg {
					t.Error(both, l, e)
				}
			}
		}
	}
	for n := 1; n <= 6; n++ {
		for m := 1; m <= 6; m++ {
			g, h := graphOf(n, 0), graphOf(m, 1)
			if l, e := Join(g, h); (e == api.ErrSize) != (n*m > 6) || e == api.ErrSize && len(l) != 0 {
				t.Error(n, m, l, e)
			}
			if l, e := Sum(g, h); (e == api.ErrSize) != (n+m > 6) || e == api.ErrSize && len(l) != 0 {
				t.Error(n, m, l, e)
			}
		}
	}
}

// The chapter's Examples.
func TestExamples(t *testing.T) {
	channel := []int{3, 6, 12, 24, 17}
	if g, e := Confusions(channel); !slices.Equal(g, cycle) || e != api.OK {
		t.Error(g, e)
	}
	if l, e := Code(cycle, 2); !slices.Equal(l, []int{0, 7, 14, 16, 23}) || e != api.OK {
		t.Error(l, e)
	}
	if f, e := Back(channel); f != (api.Frac{Num: 2, Den: 5}) || e != api.OK {
		t.Error(f, e)
	}
	if l, e := Code([]int{0}, 1); !slices.Equal(l, []int{0}) || e != api.OK {
		t.Error(l, e)
	}
	if f, e := Weigh([]int{0}); f != (api.Frac{Num: 1, Den: 1}) || e != api.OK {
		t.Error(f, e)
	}
}

// Every call gives the same again, changes no argument, and shares no memory with one.
func TestSameAgain(t *testing.T) {
	g, h, channel := []int{2, 1, 0}, []int{2, 1}, []int{3, 6, 12}
	code, weights := []int{0, 2}, []api.Frac{{Num: 1, Den: 2}, {Num: 1, Den: 2}, {Num: 0, Den: 1}}
	calls := []func() []int{
		func() []int { l, _ := Confusions(channel); return l },
		func() []int { l, _ := Code(g, 2); return l },
		func() []int { l, _ := Cliques(g); return l },
		func() []int { l, _ := Join(g, h); return l },
		func() []int { l, _ := Join(g, []int{0}); return l },
		func() []int { l, _ := Sum(g, h); return l },
	}
	for i, call := range calls {
		first, second := call(), call()
		kept := slices.Clone(second)
		if len(first) == 0 || !slices.Equal(first, second) {
			t.Error(i, first, second)
		}
		for j := range first {
			first[j] = -7
		}
		if third := call(); !slices.Equal(second, kept) || !slices.Equal(third, kept) {
			t.Error(i, second, third, kept)
		}
	}
	for range 2 {
		if ok, e := Codes(g, 1, code); !ok || e != api.OK {
			t.Error(ok, e)
		}
		if ok, e := Light(g, weights); !ok || e != api.OK {
			t.Error(ok, e)
		}
		if n, e := Cover(g); n != 2 || e != api.OK {
			t.Error(n, e)
		}
		if n, e := Fit(g); n != 2 || e != api.OK {
			t.Error(n, e)
		}
		if f, e := Weigh(g); f != (api.Frac{Num: 2, Den: 1}) || e != api.OK {
			t.Error(f, e)
		}
		if f, e := Back(channel); f != (api.Frac{Num: 1, Den: 2}) || e != api.OK {
			t.Error(f, e)
		}
	}
	if !slices.Equal(g, []int{2, 1, 0}) || !slices.Equal(h, []int{2, 1}) || !slices.Equal(channel, []int{3, 6, 12}) || !slices.Equal(code, []int{0, 2}) || weights[2] != (api.Frac{Num: 0, Den: 1}) {
		t.Error(g, h, channel, code, weights)
	}
}
