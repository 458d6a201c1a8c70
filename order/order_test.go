package order

import (
	"math"
	"reflect"
	"slices"
	"testing"

	"planchet/api"
)

// above reports whether j is above i.
func above(o []int, i, j int) bool { return o[i]&(1<<j) != 0 }

// isOrder takes the words of the chapter one by one.
func isOrder(o []int) bool {
	for i := range o {
		for j := range o {
			for k := range o {
				if above(o, i, i) || above(o, i, j) && above(o, j, k) && !above(o, i, k) {
					return false
				}
			}
		}
	}
	return true
}

// some calls f with each order of n elements, and if step is more than 1 only with about one of so many. They are those of one element less, with one more below and above any others.
func some(n, step int, f func(o []int)) {
	if n == 1 {
		f([]int{0})
		return
	}
	at := 0
	some(n-1, 1, func(o []int) {
		for below := range 1 << (n - 1) {
			for over := range 1 << (n - 1) {
				at++
				if at%step != 0 {
					continue
				}
				more := append(slices.Clone(o), over)
				for e := range o {
					if below&(1<<e) != 0 {
						more[e] |= 1 << (n - 1)
					}
				}
				if isOrder(more) {
					f(more)
				}
			}
		}
	})
}

// orders calls f with each order of up to 5 elements, and with some of 6.
func orders(step int, f func(o []int)) {
	for n := 1; n <= 5; n++ {
		some(n, 1, f)
	}
	some(6, step, f)
	f(make([]int, 6))
}

// free reports whether two elements are different and neither is above the other one.
func free(o []int, i, j int) bool { return i != j && !above(o, i, j) && !above(o, j, i) }

// anyFree reports whether two elements are free.
func anyFree(o []int) bool {
	for i := range o {
		for j := range o {
			if free(o, i, j) {
				return true
			}
		}
	}
	return false
}

func next(r *uint64, n int) int {
	*r = *r*6364136223846793005 + 1442695040888963407
	return int(*r>>33) % n
}

// The orders of the tests are all: their numbers are known.
func TestOrders(t *testing.T) {
	for i, want := range []int{1, 3, 19, 219, 4231, 130023} {
		count := 0
		some(i+1, 1, func(o []int) { count++ })
		if count != want {
			t.Error(i+1, count)
		}
	}
}

// reached returns for each element those to which pairs lead from it, one after the other.
func reached(n int, pairs [][2]int) []int {
	o := make([]int, n)
	var walk func(from, at int)
	walk = func(from, at int) {
		for _, p := range pairs {
			if p[0] == at && !above(o, from, p[1]) {
				o[from] |= 1 << p[1]
				walk(from, p[1])
			}
		}
	}
	for i := range n {
		walk(i, i)
	}
	return o
}

func pairsIn(o []int) [][2]int {
	var pairs [][2]int
	for i := range o {
		for j := range o {
			if above(o, i, j) {
				pairs = append(pairs, [2]int{i, j})
			}
		}
	}
	return pairs
}

// closes checks Close for some pairs.
func closes(t *testing.T, n int, pairs [][2]int) {
	t.Helper()
	want, none := reached(n, pairs), false
	for i := range n {
		none = none || above(want, i, i)
	}
	o, e := Close(n, pairs)
	if none && (len(o) != 0 || e != api.ErrNone) || !none && (!slices.Equal(o, want) || e != api.OK) {
		t.Error(n, pairs, o, e)
	}
}

// P7.1: Close gives just what the pairs lead to, and nothing if they lead back.
func TestClose(t *testing.T) {
	for n := 1; n <= 3; n++ {
		for set := range 1 << (n * n) {
			var pairs [][2]int
			for at := range n * n {
				if set&(1<<at) != 0 {
					pairs = append(pairs, [2]int{at / n, at % n})
				}
			}
			closes(t, n, pairs)
		}
	}
	r := uint64(1)
	for i := range 20000 {
		n := 1 + i%6
		names := []int{0, 1, 2, 3, 4, 5}[:n]
		for e := range names {
			other := next(&r, n)
			names[e], names[other] = names[other], names[e]
		}
		var pairs [][2]int
		for range next(&r, 31) {
			first, second := next(&r, n), next(&r, n)
			if first < second || next(&r, 40) == 0 {
				pairs = append(pairs, [2]int{names[first], names[second]})
			}
		}
		closes(t, n, pairs)
	}
}

// P7.1: of all orders with the pairs the one of Close is a part.
func TestCloseLeast(t *testing.T) {
	for n := 2; n <= 4; n++ {
		pairs := [][2]int{{1, 0}, {n - 1, 1}, {0, n - 2}}[:n-1]
		least, e := Close(n, pairs)
		found := false
		some(n, 1, func(o []int) {
			for _, p := range pairs {
				if !above(o, p[0], p[1]) {
					return
				}
			}
			found = true
			for i := range o {
				if least[i]&^o[i] != 0 {
					t.Error(n, least, o)
				}
			}
		})
		if found != (e == api.OK) {
			t.Error(n, pairs, e)
		}
	}
	orders(37, func(o []int) {
		if same, e := Close(len(o), pairsIn(o)); !slices.Equal(same, o) || e != api.OK {
			t.Error(o, same, e)
		}
	})
}

// P7.1: sizes, numbers of pairs and elements that are not valid, also beside pairs that lead back.
func TestCloseErrors(t *testing.T) {
	for _, n := range []int{0, 7, -1, 64, math.MaxInt, math.MinInt, 1<<32 + 1} {
		for _, pairs := range [][][2]int{nil, {{0, 1}}, {{0, 0}}} {
			if o, e := Close(n, pairs); len(o) != 0 || e != api.ErrArg {
				t.Error(n, pairs, o, e)
			}
		}
	}
	for _, n := range []int{-1, 3, 64, math.MaxInt, math.MinInt, 1 << 32} {
		for _, pair := range [][2]int{{n, 0}, {0, n}, {n, n}} {
			for _, pairs := range [][][2]int{{pair}, {{0, 0}, pair}, {{0, 1}, {1, 0}, pair}, {{0, 1}, pair, {1, 2}}} {
				if o, e := Close(3, pairs); len(o) != 0 || e != api.ErrArg {
					t.Error(pairs, o, e)
				}
			}
		}
	}
	same := slices.Repeat([][2]int{{0, 1}}, 31)
	if o, e := Close(2, same[:30]); !slices.Equal(o, []int{2, 0}) || e != api.OK {
		t.Error(o, e)
	}
	for _, pairs := range [][][2]int{same, make([][2]int, 31), make([][2]int, 100000)} {
		if o, e := Close(2, pairs); len(o) != 0 || e != api.ErrArg {
			t.Error(len(pairs), o, e)
		}
	}
	for n := 1; n <= 6; n++ {
		if o, e := Close(n, nil); !slices.Equal(o, make([]int, n)) || e != api.OK {
			t.Error(n, o, e)
		}
		if o, e := Close(n, [][2]int{{n - 1, n - 1}}); len(o) != 0 || e != api.ErrNone {
			t.Error(n, o, e)
		}
	}
}

// P7.1: Add gives what follows from the order and the pair, for free elements alone.
func TestAdd(t *testing.T) {
	orders(61, func(o []int) {
		for i := range o {
			for j := range o {
				more, e := Add(o, i, j)
				if !free(o, i, j) {
					if len(more) != 0 || e != api.ErrState {
						t.Error(o, i, j, more, e)
					}
				} else if want := reached(len(o), append(pairsIn(o), [2]int{i, j})); !slices.Equal(more, want) || e != api.OK {
					t.Error(o, i, j, more, e, want)
				}
			}
		}
	})
}

// P7.8, P7.13: Turn exchanges above and below, and twice it gives the order again.
func TestTurn(t *testing.T) {
	orders(17, func(o []int) {
		turned, e := Turn(o)
		if len(turned) != len(o) || e != api.OK {
			t.Fatal(o, turned, e)
		}
		for i := range o {
			for j := range o {
				if above(o, i, j) != above(turned, j, i) {
					t.Error(o, turned, i, j)
				}
			}
		}
		if again, e := Turn(turned); !slices.Equal(again, o) || e != api.OK {
			t.Error(o, again, e)
		}
	})
}

// badOrders are no orders: none or too many elements, sets with others, elements above themselves, and some above that follow but are not there.
var badOrders = [][]int{
	nil, {}, {0, 0, 0, 0, 0, 0, 0}, make([]int, 100000), {1}, {2}, {-1}, {math.MaxInt}, {math.MinInt}, {1 << 32},
	{2, 1}, {0, 2}, {3, 0}, {0, 3}, {4, 0}, {0, 4}, {2, math.MinInt}, {-2, 0}, {2, 4, 0}, {2, 4, 1}, {0, 4, 1}, {6, 4, 4}, {6, 8, 0, 0},
	{14, 12, 8, 1}, {0, 0, 0, 0, 0, 64}, {0, 0, 0, 0, 0, 32}, {62, 60, 56, 48, 32, 1}, {2, 4, 8, 16, 32, 0}, {0, 1 - 1<<32, 0},
}

// called returns the results of all functions of an order but Close, for the same other arguments; the error comes last.
func called(o []int, i, j int, p []Node) [][]any {
	all := [][]any{}
	add := func(results ...any) { all = append(all, results) }
	more, e := Add(o, i, j)
	add(more, e)
	lines, e := Lines(o)
	add(lines, e)
	count, e := Count(o)
	add(count, e)
	chance, e := Chance(o, i, j)
	add(chance, e)
	height, e := Height(o, i)
	add(height, e)
	even, e := Even(o)
	add(even, e)
	ideals, e := Ideals(o)
	add(ideals, e)
	chains, e := Chains(o)
	add(chains, e)
	anti, e := Anti(o)
	add(anti, e)
	need, e := Need(o)
	add(need, e)
	plan, e := Sort(o)
	add(plan, e)
	length, ok, e := Check(o, p)
	add(length, ok, e)
	realizer, e := Real(o)
	add(realizer, e)
	dim, e := Dim(o)
	add(dim, e)
	turned, e := Turn(o)
	return append(all, []any{turned, e})
}

// P7.1 to P7.8: what is no order, whatever else is asked.
func TestBadOrders(t *testing.T) {
	for at, o := range badOrders {
		if len(o) > 0 && len(o) <= 6 && isOrder(o) && !slices.ContainsFunc(o, func(set int) bool { return set < 0 || set >= 1<<len(o) }) {
			t.Error(o)
		}
		for _, pair := range [][2]int{{0, 1}, {0, 0}, {-1, 7}} {
			for which, results := range called(o, pair[0], pair[1], []Node{{0, 1, -1, -1}}) {
				for _, r := range results[:len(results)-1] {
					v := reflect.ValueOf(r)
					if !v.IsZero() && (v.Kind() != reflect.Slice || v.Len() != 0) {
						t.Error(at, pair, which, results)
					}
				}
				if results[len(results)-1] != api.ErrArg {
					t.Error(at, pair, which, results)
				}
			}
		}
	}
}

// P7.1, P7.3: what is no element, also of pairs that are not free or the same.
func TestBadElements(t *testing.T) {
	for _, o := range [][]int{{0}, {2, 0}, {0, 0, 0}, {0, 0, 0, 0, 0, 0}} {
		for _, n := range []int{-1, len(o), 64, math.MaxInt, math.MinInt, 1 << 32} {
			for _, pair := range [][2]int{{n, 0}, {0, n}, {n, n}} {
				if more, e := Add(o, pair[0], pair[1]); len(more) != 0 || e != api.ErrArg {
					t.Error(o, pair, more, e)
				}
				if c, e := Chance(o, pair[0], pair[1]); c != (api.Frac{}) || e != api.ErrArg {
					t.Error(o, pair, c, e)
				}
			}
			if h, e := Height(o, n); h != (api.Frac{}) || e != api.ErrArg {
				t.Error(o, n, h, e)
			}
		}
	}
}

// The chapter's examples.
func TestExamples(t *testing.T) {
	three, two := []int{0, 0, 0}, []int{2, 0, 0}
	if l, e := Lines(three); len(l) != 6 || e != api.OK {
		t.Error(l, e)
	}
	if f, e := Chance(three, 0, 1); f != (api.Frac{Num: 1, Den: 2}) || e != api.OK {
		t.Error(f, e)
	}
	if n, e := Need(three); n != 3 || e != api.OK {
		t.Error(n, e)
	}
	if n, e := Dim(three); n != 2 || e != api.OK {
		t.Error(n, e)
	}
	if n, e := Count(two); n != 3 || e != api.OK {
		t.Error(n, e)
	}
	if f, e := Chance(two, 0, 2); f != (api.Frac{Num: 2, Den: 3}) || e != api.OK {
		t.Error(f, e)
	}
	if f, e := Height(two, 2); f != (api.Frac{Num: 1, Den: 1}) || e != api.OK {
		t.Error(f, e)
	}
	if p, e := Even(two); p != [2]int{0, 2} || e != api.OK {
		t.Error(p, e)
	}
	if o, e := Close(3, [][2]int{{0, 1}, {1, 2}}); !slices.Equal(o, []int{6, 4, 0}) || e != api.OK {
		t.Error(o, e)
	}
	if o, e := Close(2, [][2]int{{0, 1}, {1, 0}}); len(o) != 0 || e != api.ErrNone {
		t.Error(o, e)
	}
}

// spoil overwrites all memory of a result, also what is behind the ends of its slices.
func spoil(v reflect.Value) {
	switch v.Kind() {
	case reflect.Slice:
		whole := v.Slice(0, v.Cap())
		for i := range whole.Len() {
			spoil(whole.Index(i))
		}
	case reflect.Struct:
		for i := range v.NumField() {
			spoil(v.Field(i))
		}
	case reflect.Int:
		if v.CanSet() {
			v.SetInt(-7)
		}
	}
}

// Rules 2 and 4: the same calls give the same results, no argument is changed, and no result shares memory.
func TestSameAgain(t *testing.T) {
	o, pairs := []int{4, 4, 0, 0, 8, 0}, [][2]int{{0, 2}, {1, 2}, {4, 3}}
	p, _ := Sort(o)
	oldOrder, oldPairs, oldPlan := slices.Clone(o), slices.Clone(pairs), slices.Clone(p)
	first, again := called(o, 0, 1, p), called(o, 0, 1, p)
	for _, results := range again {
		if results[len(results)-1] != api.OK {
			t.Error(results)
		}
		spoil(reflect.ValueOf(results[0]))
	}
	if !reflect.DeepEqual(first, called(o, 0, 1, p)) {
		t.Error(first)
	}
	closed, e := Close(6, pairs)
	if !slices.Equal(closed, o) || e != api.OK {
		t.Error(closed, e)
	}
	clear(closed)
	if again, e := Close(6, pairs); !slices.Equal(again, o) || e != api.OK {
		t.Error(again, e)
	}
	if !slices.Equal(o, oldOrder) || !slices.Equal(pairs, oldPairs) || !slices.Equal(p, oldPlan) {
		t.Error("changed", o, pairs, p)
	}
}

// No two slices of one result share memory.
func TestApart(t *testing.T) {
	for _, f := range []func([]int) ([][]int, api.Errno){Lines, Real} {
		l, _ := f(make([]int, 4))
		want, _ := f(make([]int, 4))
		for i := range l {
			spoil(reflect.ValueOf(l[i]))
			if !reflect.DeepEqual(l[i+1:], want[i+1:]) {
				t.Fatal(i, l)
			}
		}
	}
}
