package evade

import (
	"math"
	"reflect"
	"slices"
	"testing"

	"planchet/api"
)

// isPart reports whether all elements of s are in t.
func isPart(s, t int) bool { return s&t == s }

func elements(s int) []int {
	var l []int
	for x := range 6 {
		if s&(1<<x) != 0 {
			l = append(l, x)
		}
	}
	return l
}

// isFamily takes the words of the chapter one by one.
func isFamily(n int, f []int) bool {
	for at, s := range f {
		if s < 0 || s >= 1<<n || at > 0 && s <= f[at-1] {
			return false
		}
		for part := range s {
			if isPart(part, s) && !slices.Contains(f, part) {
				return false
			}
		}
	}
	return true
}

// members returns the sets whose bits are set in f.
func members(f uint64) []int {
	var l []int
	for s := range 64 {
		if f&(1<<s) != 0 {
			l = append(l, s)
		}
	}
	return l
}

// families calls f with the members of each family of n elements. Each one has what is left without the last element, and its link, which is within that.
func families(n int, f func(sets uint64)) {
	if n == 0 {
		f(0)
		f(1)
		return
	}
	var smaller []uint64
	families(n-1, func(sets uint64) { smaller = append(smaller, sets) })
	for _, left := range smaller {
		for _, link := range smaller {
			if link&^left == 0 {
				f(left | link<<(1<<(n-1)))
			}
		}
	}
}

// small calls f with each family of up to so many elements.
func small(most int, f func(n int, l []int)) {
	for n := 1; n <= most; n++ {
		families(n, func(sets uint64) { f(n, members(sets)) })
	}
}

// some calls f with each family of up to 5 elements, and of those of 6 with one of so many.
func some(step int, f func(n int, l []int)) {
	small(5, f)
	at := 0
	families(6, func(sets uint64) {
		if at%step == 0 {
			f(6, members(sets))
		}
		at++
	})
	f(6, []int{0})
	f(6, whole(6))
}

func whole(n int) []int {
	var l []int
	for s := range 1 << n {
		l = append(l, s)
	}
	return l
}

// next returns a number from 0 to below n, each time another one.
func next(r *uint64, n int) int {
	*r = *r*6364136223846793005 + 1442695040888963407
	return int(*r >> 33 % uint64(n))
}

// sumOf takes the words of the chapter one by one.
func sumOf(f []int) int {
	sum := 0
	for _, s := range f {
		if len(elements(s))%2 == 0 {
			sum++
		} else {
			sum--
		}
	}
	return sum
}

func linkOf(f []int, x int) []int {
	var l []int
	for s := range 64 {
		if s&(1<<x) == 0 && slices.Contains(f, s+1<<x) {
			l = append(l, s)
		}
	}
	return l
}

func leftOf(f []int, x int) []int {
	var l []int
	for _, s := range f {
		if s&(1<<x) == 0 {
			l = append(l, s)
		}
	}
	return l
}

// P8.1: Close is all parts of the sets, in whatever order and however often they are given.
func TestClose(t *testing.T) {
	check := func(n int, sets []int) {
		var want []int
		for s := range 1 << n {
			if slices.ContainsFunc(sets, func(set int) bool { return isPart(s, set) }) {
				want = append(want, s)
			}
		}
		if f, e := Close(n, sets); !slices.Equal(f, want) || !isFamily(n, f) || e != api.OK {
			t.Fatal(n, sets, f, e, want)
		}
	}
	for n := 1; n <= 3; n++ {
		for sets := range uint64(1 << (1 << n)) {
			check(n, members(sets))
		}
	}
	r := uint64(1)
	for n := 1; n <= 6; n++ {
		for range 3000 {
			var sets []int
			for range next(&r, 65) / (1 + next(&r, 20)) {
				sets = append(sets, next(&r, 1<<n))
			}
			check(n, sets)
		}
		check(n, whole(n))
		check(n, nil)
		check(n, []int{})
		check(n, slices.Repeat([]int{1<<n - 1}, 64))
	}
	some(1009, func(n int, f []int) { check(n, f) })
}

// P8.1: what Close does not take.
func TestCloseBad(t *testing.T) {
	for _, n := range []int{-1, 0, 7, 8, 63, 64, 65, math.MaxInt, math.MinInt, 1 << 32, 1<<32 + 1} {
		for _, sets := range [][]int{nil, {}, {0}, {0, 1}, {-1}} {
			if f, e := Close(n, sets); len(f) != 0 || e != api.ErrArg {
				t.Error(n, sets, f, e)
			}
		}
	}
	for n := 1; n <= 6; n++ {
		for _, s := range []int{-1, -2, 1 << n, 1<<n + 1, 64, 128, math.MaxInt, math.MinInt, 1 << 32, 1<<32 + 1} {
			for _, sets := range [][]int{{s}, {0, s}, {s, 0}, {0, 1, s, 0}} {
				if f, e := Close(n, sets); len(f) != 0 || e != api.ErrArg {
					t.Error(n, sets, f, e)
				}
			}
		}
		for _, many := range []int{65, 66, 1000000} {
			if f, e := Close(n, make([]int, many)); len(f) != 0 || e != api.ErrArg {
				t.Error(n, many, f, e)
			}
		}
	}
}

// P8.1: Link and Without, which are families of the same n elements, none of whose sets has x.
func TestHalves(t *testing.T) {
	some(1009, func(n int, f []int) {
		for x := range n {
			link, e := Link(n, f, x)
			if !slices.Equal(link, linkOf(f, x)) || !isFamily(n, link) || e != api.OK {
				t.Fatal(n, f, x, link, e)
			}
			left, e := Without(n, f, x)
			if !slices.Equal(left, leftOf(f, x)) || !isFamily(n, left) || e != api.OK {
				t.Fatal(n, f, x, left, e)
			}
			for _, s := range slices.Concat(link, left) {
				if s&(1<<x) != 0 {
					t.Fatal(n, f, x, s)
				}
			}
		}
	})
}

// P8.1: x is no element of the n there are.
func TestHalvesBad(t *testing.T) {
	for n := 1; n <= 6; n++ {
		for _, f := range [][]int{nil, {0}, {0, 1}, whole(n)} {
			for _, x := range []int{-1, n, n + 1, 64, math.MaxInt, math.MinInt, 1 << 32} {
				if l, e := Link(n, f, x); len(l) != 0 || e != api.ErrArg {
					t.Error(n, f, x, l, e)
				}
				if l, e := Without(n, f, x); len(l) != 0 || e != api.ErrArg {
					t.Error(n, f, x, l, e)
				}
			}
		}
	}
}

// P8.4, P8.9: Sum and Dual; Dual of Dual, and what Dual does to Sum and Ask.
func TestSumDual(t *testing.T) {
	some(1009, func(n int, f []int) {
		sum, e := Sum(n, f)
		if sum != sumOf(f) || e != api.OK {
			t.Fatal(n, f, sum, e)
		}
		var want []int
		for s := range 1 << n {
			if !slices.Contains(f, 1<<n-1-s) {
				want = append(want, s)
			}
		}
		dual, e := Dual(n, f)
		if !slices.Equal(dual, want) || !isFamily(n, dual) || e != api.OK {
			t.Fatal(n, f, dual, e)
		}
		if again, e := Dual(n, dual); !slices.Equal(again, f) || e != api.OK {
			t.Fatal(n, f, dual, again, e)
		}
		if n%2 == 0 {
			sum = -sum
		}
		if turned, e := Sum(n, dual); turned != sum || e != api.OK {
			t.Fatal(n, f, dual, turned, e)
		}
		k, _ := Ask(n, f)
		if same, e := Ask(n, dual); same != k || e != api.OK {
			t.Fatal(n, f, dual, same, k, e)
		}
	})
}

// joins calls check with pairs of families of up to 6 elements together, about one of so many.
func joins(step int, check func(n, m int, f, g []int)) {
	at := 0
	small(5, func(n int, f []int) {
		small(6-n, func(m int, g []int) {
			if at%step == 0 || n+m <= 4 {
				check(n, m, f, g)
			}
			at++
		})
	})
}

// P8.7, P8.11: Join, its Sum, and that it is early if one of both is.
func TestJoin(t *testing.T) {
	early := 0
	joins(7, func(n, m int, f, g []int) {
		var want []int
		for s := range 1 << (n + m) {
			if slices.Contains(f, s%(1<<n)) && slices.Contains(g, s/(1<<n)) {
				want = append(want, s)
			}
		}
		join, e := Join(n, m, f, g)
		if !slices.Equal(join, want) || !isFamily(n+m, join) || e != api.OK {
			t.Fatal(n, m, f, g, join, e)
		}
		if sum, e := Sum(n+m, join); sum != sumOf(f)*sumOf(g) || e != api.OK {
			t.Fatal(n, m, f, g, sum, e)
		}
		one, _ := Early(n, f)
		other, _ := Early(m, g)
		if both, e := Early(n+m, join); (one || other) && !both || e != api.OK {
			t.Fatal(n, m, f, g, both, e)
		}
		if one || other {
			early++
		}
	})
	if early < 100 {
		t.Error(early)
	}
}

// P8.7: what Join does not take.
func TestJoinBad(t *testing.T) {
	for _, x := range []struct {
		n, m int
		f, g []int
	}{
		{1, 6, nil, nil}, {6, 1, nil, nil}, {3, 4, []int{0}, []int{0}}, {4, 3, nil, []int{0}}, {6, 6, nil, nil},
		{0, 1, nil, nil}, {1, 0, nil, nil}, {0, 6, nil, nil}, {-1, 2, nil, nil}, {2, -1, nil, nil}, {7, -1, nil, nil}, {-1, 7, nil, nil},
		{math.MaxInt, math.MaxInt, nil, nil}, {math.MinInt, math.MinInt, nil, nil}, {math.MaxInt, math.MinInt, nil, nil}, {1, math.MaxInt, nil, nil},
		{2, 2, []int{1}, nil}, {2, 2, nil, []int{1}}, {2, 2, []int{0, 4}, nil}, {2, 2, nil, []int{0, 4}}, {2, 3, []int{0, 4}, []int{0, 4}},
		{2, 2, []int{0, 0}, []int{0}}, {2, 2, []int{0}, []int{0, 2, 1}},
	} {
		if l, e := Join(x.n, x.m, x.f, x.g); len(l) != 0 || e != api.ErrArg {
			t.Error(x, l, e)
		}
	}
}

// badFamilies are no families: sizes that are not from 1 to 6, sets of other elements, sets that do not rise, and sets without a part of them.
var badFamilies = []struct {
	n int
	f []int
}{
	{0, nil}, {0, []int{0}}, {-1, nil}, {7, nil}, {7, []int{0}}, {64, nil}, {math.MaxInt, nil}, {math.MinInt, nil}, {1 << 32, nil}, {1<<32 + 2, []int{0}},
	{1, []int{1}}, {2, []int{0, 3}}, {2, []int{0, 1, 3}}, {2, []int{0, 2, 3}}, {2, []int{1, 2, 3}}, {3, []int{0, 1, 2, 4, 7}}, {3, []int{0, 1, 2, 3, 4, 5, 7}},
	{3, []int{0, 1, 2, 4, 6, 7}}, {6, []int{0, 63}}, {6, []int{0, 1, 33}}, {6, whole(6)[1:]}, {6, []int{32}},
	{2, []int{1, 0}}, {2, []int{0, 2, 1}}, {2, []int{0, 0}}, {2, []int{0, 1, 1}}, {2, []int{0, 1, 2, 3, 3}}, {6, make([]int, 65)}, {6, make([]int, 1000000)},
	{1, []int{0, 2}}, {2, []int{0, 4}}, {5, []int{0, 32}}, {6, []int{0, 64}}, {6, append(whole(6), 64)}, {5, whole(6)}, {1, []int{0, 1, 2, 3}},
	{2, []int{-1}}, {2, []int{-1, 0}}, {2, []int{0, -1}}, {2, []int{math.MinInt, 0}}, {2, []int{0, math.MaxInt}}, {2, []int{0, 1 << 32}}, {2, []int{0, 1<<32 + 1}},
}

// called returns the results of all functions of a family, for the same other arguments; the error comes last.
func called(n int, f []int, x int, p []Node, folds [][2]int) [][]any {
	all := [][]any{}
	add := func(results ...any) { all = append(all, results) }
	link, e := Link(n, f, x)
	add(link, e)
	left, e := Without(n, f, x)
	add(left, e)
	early, e := Early(n, f)
	add(early, e)
	plan, e := Plan(n, f)
	add(plan, e)
	length, ok, e := Check(n, f, p)
	add(length, ok, e)
	ask, e := Ask(n, f)
	add(ask, e)
	sum, e := Sum(n, f)
	add(sum, e)
	dual, e := Dual(n, f)
	add(dual, e)
	folding, e := Folding(n, f)
	add(folding, e)
	right, e := Folds(n, f, folds)
	add(right, e)
	join, e := Join(n, 1, f, []int{0, 1})
	add(join, e)
	join, e = Join(1, n, []int{0, 1}, f)
	return append(all, []any{join, e})
}

// P8.1 to P8.7: what is no family, whatever else is asked.
func TestBadFamilies(t *testing.T) {
	for at, bad := range badFamilies {
		if bad.n >= 1 && bad.n <= 6 && len(bad.f) < 100 && isFamily(bad.n, bad.f) {
			t.Error(at, bad)
		}
		for _, x := range []int{0, -1, 7} {
			for which, results := range called(bad.n, bad.f, x, nil, [][2]int{{2, 3}}) {
				for _, r := range results[:len(results)-1] {
					v := reflect.ValueOf(r)
					if !v.IsZero() && (v.Kind() != reflect.Slice || v.Len() != 0) {
						t.Error(at, x, which, results)
					}
				}
				if results[len(results)-1] != api.ErrArg {
					t.Error(at, x, which, results)
				}
			}
		}
	}
}

// The chapter's examples.
func TestExamples(t *testing.T) {
	for _, x := range []struct {
		n        int
		f        []int
		early    bool
		ask, sum int
	}{
		{2, []int{0, 1, 2}, false, 2, -1},
		{2, []int{0, 1}, true, 1, 0},
		{3, []int{0, 1, 2, 3, 4, 6}, true, 2, 0},
		{3, []int{0, 1, 2, 4}, false, 3, -2},
	} {
		if early, e := Early(x.n, x.f); early != x.early || e != api.OK {
			t.Error(x, early, e)
		}
		if ask, e := Ask(x.n, x.f); ask != x.ask || e != api.OK {
			t.Error(x, ask, e)
		}
		if sum, e := Sum(x.n, x.f); sum != x.sum || e != api.OK {
			t.Error(x, sum, e)
		}
	}
	path := []int{0, 1, 2, 3, 4, 6}
	if f, e := Close(3, []int{3, 6}); !slices.Equal(f, path) || e != api.OK {
		t.Error(f, e)
	}
	if ok, e := Folds(3, path, [][2]int{{1, 3}, {4, 6}}); !ok || e != api.OK {
		t.Error(ok, e)
	}
	if f, e := Spread(3, []int{1}); !slices.Equal(f, []int{0, 1, 2, 4}) || e != api.OK {
		t.Error(f, e)
	}
}

// spoil overwrites all memory of a result, also what is behind the ends of its slices.
func spoil(v reflect.Value) {
	switch v.Kind() {
	case reflect.Slice:
		whole := v.Slice(0, v.Cap())
		for i := range whole.Len() {
			spoil(whole.Index(i))
		}
	case reflect.Array:
		for i := range v.Len() {
			spoil(v.Index(i))
		}
	case reflect.Struct:
		for i := range v.NumField() {
			spoil(v.Field(i))
		}
	case reflect.Int:
		if v.CanSet() {
			v.SetInt(-7)
		}
	}
}

// Rules 2 and 4: the same calls give the same results, no argument is changed, and no result shares memory.
func TestSameAgain(t *testing.T) {
	f, tops := []int{0, 1, 2, 3, 4, 6, 8, 12}, []int{12, 6, 3, 6}
	p, _ := Plan(4, f)
	folds, _ := Folding(4, f)
	oldFamily, oldTops, oldPlan, oldFolds := slices.Clone(f), slices.Clone(tops), slices.Clone(p), slices.Clone(folds)
	all := func() [][]any {
		closed, e := Close(4, tops)
		spread, e2 := Spread(4, tops)
		is, e3 := Property(4, f)
		return append(called(4, f, 0, p, folds), []any{closed, e}, []any{spread, e2}, []any{is, e3})
	}
	first := all()
	for _, results := range all() {
		if results[len(results)-1] != api.OK {
			t.Error(results)
		}
		spoil(reflect.ValueOf(results[0]))
	}
	if !reflect.DeepEqual(first, all()) {
		t.Error(first)
	}
	if !slices.Equal(f, oldFamily) || !slices.Equal(tops, oldTops) || !slices.Equal(p, oldPlan) || !slices.Equal(folds, oldFolds) {
		t.Error("changed", f, tops, p, folds)
	}
}

// Rule 4: a nil slice is the same as an empty one.
func TestEmpty(t *testing.T) {
	for n := 1; n <= 5; n++ {
		one, other := called(n, nil, 0, nil, nil), called(n, []int{}, 0, []Node{}, [][2]int{})
		if !reflect.DeepEqual(one, other) {
			t.Error(n, one, other)
		}
	}
	for m := 2; m <= 4; m++ {
		for _, l := range [][]int{nil, {}} {
			if f, e := Spread(m, l); len(f) != 0 || e != api.OK {
				t.Error(m, f, e)
			}
			if ok, e := Property(m, l); !ok || e != api.OK {
				t.Error(m, ok, e)
			}
		}
	}
}
