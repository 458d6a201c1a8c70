package sure

import (
	"math"
	"slices"
	"testing"

	"planchet/api"
)

// signals returns the signals of a word.
func signals(n, k, word int) []int {
	l := make([]int, k)
	for i := range k {
		l[k-1-i] = word % n
		word /= n
	}
	return l
}

func confused(g []int, k, v, w int) bool {
	a, b := signals(len(g), k, v), signals(len(g), k, w)
	for i := range a {
		if a[i] != b[i] && !neighbours(g, a[i], b[i]) {
			return false
		}
	}
	return v != w
}

// confusions returns which words are confused.
func confusions(g []int, k int) [][]bool {
	n := power(len(g), k)
	table := make([][]bool, n)
	for v := range n {
		for w := range n {
			table[v] = append(table[v], confused(g, k, v, w))
		}
	}
	return table
}

func power(n, k int) int {
	p := 1
	for range k {
		p *= n
	}
	return p
}

// isCode tells in the document's words whether a rising slice of words is a code.
func isCode(table [][]bool, code []int) bool {
	for _, v := range code {
		for _, w := range code {
			if table[v][w] {
				return false
			}
		}
	}
	return true
}

// P5.2: Codes of all sets of words, also not rising and with other numbers.
func TestCodes(t *testing.T) {
	for n := 1; n <= 4; n++ {
		for k := 1; k <= 3 && power(n, k) <= 9; k++ {
			everyGraph(n, 1, func(g []int) {
				table := confusions(g, k)
				for set := range 1 << power(n, k) {
					code := members(set)
					if ok, e := Codes(g, k, code); ok != isCode(table, code) || e != api.OK {
						t.Error(g, k, code, ok, e)
					}
				}
			})
		}
	}
	for _, code := range [][]int{{0, 0}, {2, 0}, {-1}, {-1, 2}, {5}, {0, 5}, {0, 64}, {0, math.MaxInt}, {math.MinInt, 0}, {0, 2, 2}, {0, 1}, make([]int, 100000)} {
		if ok, e := Codes(cycle, 1, code); ok || e != api.OK {
			t.Error(len(code), ok, e)
		}
	}
	for _, code := range [][]int{nil, {}, {0, 2}, {1, 4}, {3}} {
		if ok, e := Codes(cycle, 1, code); !ok || e != api.OK {
			t.Error(code, ok, e)
		}
	}
	if ok, e := Codes(graphOf(4, 0), 3, []int{0, 1, 63}); !ok || e != api.OK {
		t.Error(ok, e)
	}
	if ok, e := Codes(graphOf(4, 0), 3, []int{0, 1, 64}); ok || e != api.OK {
		t.Error(ok, e)
	}
}

func members(set int) []int {
	var l []int
	for i := range 62 {
		if set&(1<<i) != 0 {
			l = append(l, i)
		}
	}
	return l
}

// firstCode returns of the greatest codes the first one, by a search of all codes in order.
func firstCode(table [][]bool) []int {
	var best []int
	var add func(code []int, from int)
	add = func(code []int, from int) {
		if len(code) > len(best) {
			best = slices.Clone(code)
		}
		for v := from; v < len(table) && len(code)+len(table)-v > len(best); v++ {
			if !slices.ContainsFunc(code, func(w int) bool { return table[v][w] }) {
				add(append(slices.Clip(code), v), v+1)
			}
		}
	}
	add(nil, 0)
	return best
}

// P5.2: Code is the first of the greatest codes, by full searches.
func TestCode(t *testing.T) {
	check := func(g []int, k int) {
		if l, e := Code(g, k); !slices.Equal(l, firstCode(confusions(g, k))) || e != api.OK {
			t.Error(g, k, l, e)
		}
	}
	for n := 1; n <= 4; n++ {
		for k := 1; k <= 3 && power(n, k) <= 16; k++ {
			everyGraph(n, 1, func(g []int) { check(g, k) })
		}
	}
	everyGraph(5, 1, func(g []int) { check(g, 1) })
	everyGraph(6, 1, func(g []int) { check(g, 1) })
	for _, g := range fives() {
		check(g, 2)
	}
	check(graphOf(6, 1<<15-1-7), 2)
	check(graphOf(3, 7), 3)
	check(graphOf(4, 63), 3)
}

// targeted returns the first code with as many words as there are parts, where each part is a set of words of which any two are confused and all words are in parts; or nil if there is none.
func targeted(table [][]bool, parts [][]int) []int {
	part := make([]int, len(table))
	for i, words := range parts {
		for _, w := range words {
			part[w] = i
		}
	}
	var add func(code, rest []int) []int
	add = func(code, rest []int) []int {
		if len(code) == len(parts) {
			return code
		}
		for i, v := range rest {
			if reached(rest[i:], part)+len(code) < len(parts) {
				return nil
			}
			var left []int
			for _, w := range rest[i+1:] {
				if !table[v][w] {
					left = append(left, w)
				}
			}
			if reached(left, part)+len(code)+1 < len(parts) {
				continue
			}
			if found := add(append(slices.Clip(code), v), left); found != nil {
				return found
			}
		}
		return nil
	}
	var all []int
	for w := range table {
		all = append(all, w)
	}
	return add(nil, all)
}

func reached(words, part []int) int {
	parts := map[int]bool{}
	for _, w := range words {
		parts[part[w]] = true
	}
	return len(parts)
}

// wordParts parts the words by the parts that their signals are in, the signals being in the fewest cliques.
func wordParts(g []int, k int) [][]int {
	of := make([]int, len(g))
	for i, set := range fewestCliques(g) {
		for _, s := range members(set) {
			of[s] = i
		}
	}
	byKey := map[int][]int{}
	for w := range power(len(g), k) {
		key := 0
		for _, s := range signals(len(g), k, w) {
			key = key*len(g) + of[s]
		}
		byKey[key] = append(byKey[key], w)
	}
	var parts [][]int
	for key := range power(len(g), k) {
		if words := byKey[key]; words != nil {
			parts = append(parts, words)
		}
	}
	return parts
}

// P5.2: Code with many words, where there is one with a word in each of the parts of the words, which no code can have more of.
func TestCodeMany(t *testing.T) {
	check := func(k int) func(g []int) {
		return func(g []int) {
			l, e := Code(g, k)
			if w, _ := Weigh(g); w.Den != 1 {
				return
			}
			if want := targeted(confusions(g, k), wordParts(g, k)); want == nil || !slices.Equal(l, want) || e != api.OK {
				t.Error(g, k, l, want, e)
			}
		}
	}
	everyGraph(3, 1, check(3))
	everyGraph(4, 1, check(3))
	everyGraph(5, 3, check(2))
	everyGraph(6, 231, check(2))
}

// fives returns all graphs of five signals in a cycle.
func fives() [][]int {
	var l [][]int
	everyGraph(5, 1, func(g []int) {
		seen, at, last := 1, 0, -1
		for range 5 {
			next := members(g[at])
			if len(next) != 2 {
				return
			}
			if next[0] == last {
				next[0] = next[1]
			}
			last, at = at, next[0]
			seen |= 1 << at
		}
		if seen == 31 && at == 0 {
			l = append(l, g)
		}
	})
	return l
}

// P5.10: five signals in a cycle.
func TestFive(t *testing.T) {
	all := fives()
	if len(all) != 12 {
		t.Fatal(len(all))
	}
	for _, g := range all {
		one, _ := Code(g, 1)
		two, _ := Code(g, 2)
		w, _ := Weigh(g)
		c, _ := Cover(g)
		f, _ := Fit(g)
		if len(one) != 2 || len(two) != 5 || w != (api.Frac{Num: 5, Den: 2}) || c != 3 || f != 3 {
			t.Error(g, one, two, w, c, f)
		}
	}
}

// number returns how many words Code has, which Codes accepts.
func number(t *testing.T, g []int, k int) int {
	l, e := Code(g, k)
	if ok, f := Codes(g, k, l); !ok || e != api.OK || f != api.OK {
		t.Error(g, k, l, ok, e, f)
	}
	return len(l)
}

// P5.8: codes of two lengths together give one of their sum; Weigh, Cover and Fit are bounds.
func TestBounds(t *testing.T) {
	graphs(97, func(g []int) {
		w, _ := Weigh(g)
		c, _ := Cover(g)
		var n [4]int
		for k := 1; k <= 3 && power(len(g), k) <= 64; k++ {
			n[k] = number(t, g, k)
			if n[k]*power(w.Den, k) > power(w.Num, k) {
				t.Error(g, k, n, w)
			}
			if f, e := Fit(g); len(g) <= 5 && (n[k] > power(f, k) || e != api.OK) {
				t.Error(g, k, n, f, e)
			}
			for j := 1; j < k; j++ {
				if n[k] < n[j]*n[k-j] {
					t.Error(g, j, k, n)
				}
			}
		}
		if w.Num > c*w.Den {
			t.Error(g, w, c)
		}
	})
}

// P5.11: words of length 2 are the signals of the graph joined with itself.
func TestJoined(t *testing.T) {
	for n := 1; n <= 2; n++ {
		everyGraph(n, 1, func(g []int) {
			l, e := Join(g, g)
			if e != api.OK || number(t, g, 2) != number(t, l, 1) {
				t.Error(g, l, e)
			}
		})
	}
}

// P5.13: a pair of neighbours more.
func TestMore(t *testing.T) {
	for n := 2; n <= 5; n++ {
		for set := range 1 << (n * (n - 1) / 2) {
			g := graphOf(n, set)
			w, _ := Weigh(g)
			for bit := range n * (n - 1) / 2 {
				more := graphOf(n, set|1<<bit)
				if v, _ := Weigh(more); v.Num*w.Den > w.Num*v.Den {
					t.Error(g, more, w, v)
				}
				for k := 1; k <= 2; k++ {
					if (k == 1 || set%9 == 0) && number(t, more, k) > number(t, g, k) {
						t.Error(g, more, k)
					}
				}
			}
		}
	}
}

// P5.2: the errors, ErrArg before ErrSize.
func TestCodeErrors(t *testing.T) {
	for _, g := range badGraphs {
		for k := -1; k <= 4; k++ {
			badCode(t, g, k, api.ErrArg)
		}
	}
	for _, k := range []int{0, 4, -1, 64, math.MaxInt, math.MinInt, 1 << 32, 1<<32 + 1} {
		badCode(t, []int{0}, k, api.ErrArg)
		badCode(t, cycle, k, api.ErrArg)
	}
	badCode(t, cycle, 3, api.ErrSize)
	badCode(t, graphOf(6, 0), 3, api.ErrSize)
	for n := 1; n <= 6; n++ {
		for k := 1; k <= 3; k++ {
			l, e := Code(graphOf(n, 0), k)
			if many := power(n, k) > 64; many != (e == api.ErrSize) || !many && len(l) != power(n, k) {
				t.Error(n, k, l, e)
			}
		}
	}
}

func badCode(t *testing.T, g []int, k int, want api.Errno) {
	if l, e := Code(g, k); len(l) != 0 || e != want {
		t.Error(len(g), k, l, e)
	}
	for _, code := range [][]int{nil, {0}, {1, 0}, {-1}} {
		if ok, e := Codes(g, k, code); ok || e != want {
			t.Error(len(g), k, code, ok, e)
		}
	}
}
