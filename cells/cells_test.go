package cells_test

import (
	"slices"
	"strconv"
	"testing"

	"arbour/api"
	"arbour/cells"
	"arbour/set"
)

// manyNames answers '~0', '~1' and so on, rising as strings.
func manyNames(n int) []string {
	var out []string
	for i := range n {
		out = append(out, "~"+strconv.Itoa(i))
	}
	slices.Sort(out)
	return out
}

// P9.1
func TestSample(t *testing.T) {
	for _, c := range []struct {
		s    api.Set
		want api.Value
	}{
		{set.All(), api.Value{}},
		{api.Set{Absent: true}, api.Value{}},
		{api.Set{Absent: true, Ints: []api.Range{r(1, 2)}, Strs: []string{"a"}}, api.Value{}},
		{ints(r(3, 4)), number(3)},
		{ints(r(0, 0)), number(0)},
		{ints(r(low, high)), number(low)},
		{ints(r(high, high)), number(high)},
		{ints(r(-9, -8), r(1, 2), r(4, 5)), number(-9)},
		{api.Set{Ints: []api.Range{r(3, 4)}, Strs: []string{"a"}}, number(3)},
		{api.Set{Ints: []api.Range{r(3, 4)}, Co: true}, number(3)},
		{strs("q"), str("q")},
		{strs(""), str("")},
		{strs("", "a"), str("")},
		{strs("~1", "~2"), str("~1")},
		{strs("12345678", "~0"), str("12345678")},
		{others(), str("~0")},
		{others("a"), str("~0")},
		{others("~"), str("~0")},
		{others("~0"), str("~1")},
		{others("~1"), str("~0")},
		{others("~0", "~2"), str("~1")},
		{others("~0", "~1"), str("~2")},
		{others("~00", "~01"), str("~0")},
		{others("", "a", "~0", "~00", "~1", "~2", "~4"), str("~3")},
		{others(manyNames(9)...), str("~9")},
		{others(manyNames(10)...), str("~10")},
		{others(manyNames(100)...), str("~100")},
		{others(manyNames(123456)...), str("~123456")},
	} {
		if got, ok := cells.Sample(c.s); !ok || got != c.want {
			t.Errorf("Sample(%v): %v, %v, not %v", c.s, got, ok, c.want)
		}
	}
}

// P9.1
func TestNoSample(t *testing.T) {
	list := append(wrongSets(), api.Set{}, api.Set{Ints: []api.Range{}, Strs: []string{}})
	for _, s := range list {
		if got, ok := cells.Sample(s); ok || got != (api.Value{}) {
			t.Errorf("Sample(%v): %v, %v", s, got, ok)
		}
	}
}

// sampleOf is a second form of Sample: the first one of all values that may come that the set has.
func sampleOf(s api.Set) (api.Value, bool) {
	list := []api.Value{{}}
	for _, p := range numberPieces() {
		list = append(list, number(p.Lo))
	}
	all := names()
	if s.Co {
		all = manyNames(9)
	}
	for _, name := range all {
		list = append(list, str(name))
	}
	for _, v := range list {
		if set.Has(s, v) {
			return v, true
		}
	}
	return api.Value{}, false
}

// P9.1
func TestSampleOfAllSets(t *testing.T) {
	for numbers := range allNumbers + 1 {
		for strings := range allStrings + 1 {
			for _, absent := range []bool{false, true} {
				s := pieces{absent, numbers, strings}.set()
				got, ok := cells.Sample(s)
				if want, some := sampleOf(s); got != want || ok != some {
					t.Fatalf("Sample(%v): %v, %v, not %v, %v", s, got, ok, want, some)
				}
			}
		}
	}
}

// P9.1
func TestWhich(t *testing.T) {
	list := []api.Set{{}, ints(r(1, 5)), {Ints: []api.Range{r(5, 9)}, Strs: []string{"b"}}, others("a", "b"), ints(r(1, 9)), set.All()}
	for _, c := range []struct {
		v    api.Value
		want int
	}{
		{number(1), 1}, {number(5), 1}, {number(6), 2}, {number(9), 2}, {number(0), 5}, {number(low), 5},
		{str("b"), 2}, {str("c"), 3}, {str(""), 3}, {str("12345678"), 3}, {str("a"), 5}, {api.Value{}, 5},
	} {
		if got := cells.Which(list, c.v); got != c.want {
			t.Errorf("Which(%v): %d, not %d", c.v, got, c.want)
		}
		want := c.want
		if want == 5 {
			want = -1
		}
		if got := cells.Which(list[:5], c.v); got != want {
			t.Errorf("Which(%v) without the last one: %d, not %d", c.v, got, want)
		}
		if got := cells.Which(nil, c.v); got != -1 {
			t.Errorf("Which(%v) of no cells: %d", c.v, got)
		}
	}
	for _, v := range wrongValues() {
		if got := cells.Which(append(wrongSets(), list...), v); got != -1 {
			t.Errorf("Which(%v): %d", v, got)
		}
	}
}

// P9.1: each value is in the one cell that has it.
func TestWhichOfCut(t *testing.T) {
	for i, p := range somePieces() {
		q := somePieces()[(i*5+3)%len(somePieces())]
		list := cells.Cut(p.set(), q.set())
		for _, v := range someValues() {
			got := cells.Which(list, v)
			if got < 0 || !set.Has(list[got], v) {
				t.Fatalf("Which(%v, %v): %d", list, v, got)
			}
		}
		for at, cell := range list {
			v, ok := cells.Sample(cell)
			if got := cells.Which(list, v); !ok || got != at {
				t.Fatalf("the sample %v of the cell %d is in the cell %d", v, at, got)
			}
		}
	}
}

// hasByWords is whether a set, right or not, has a value that may be, told part by part.
func hasByWords(s api.Set, v api.Value) bool {
	switch v.Kind {
	case api.Int:
		return slices.ContainsFunc(s.Ints, func(x api.Range) bool { return x.Lo <= v.N && v.N <= x.Hi })
	case api.Str:
		return slices.Contains(s.Strs, v.S) != s.Co
	}
	return s.Absent
}

// P9.1: of sets that aren't right, too, Which tells the first one that has the value, and In whether one has it.
func TestWhichAndInOfWrongSets(t *testing.T) {
	values := append(someValues(), str("c"), str("p"), str("q"), str("x"), str("y"), str("z"), number(4), number(5), number(9))
	for _, v := range values {
		want := slices.IndexFunc(wrongSets(), func(s api.Set) bool { return hasByWords(s, v) })
		if got := cells.Which(wrongSets(), v); got != want {
			t.Errorf("Which(%v): %d, not %d", v, got, want)
		}
		for _, s := range wrongSets() {
			one := cells.Which([]api.Set{s}, v)
			if (one == 0) != hasByWords(s, v) {
				t.Errorf("Which(%v, %v): %d", s, v, one)
			}
			cell := cellOf(v)
			if got, want := cells.In(cell, s), hasByWords(s, v); got != want {
				t.Errorf("In(%v, %v): %v", cell, s, got)
			}
			if cells.In(s, cell) || cells.In(s, set.All()) {
				t.Errorf("In(%v, ..): true, though that has no sample", s)
			}
		}
	}
}

// cellOf lays the set of one value.
func cellOf(v api.Value) api.Set {
	switch v.Kind {
	case api.Int:
		return ints(r(v.N, v.N))
	case api.Str:
		return strs(v.S)
	}
	return api.Set{Absent: true}
}

// P9.1
func TestIn(t *testing.T) {
	for _, s := range append(sets(somePieces()), api.Set{}, set.All()) {
		for _, cell := range append(sets(somePieces()), api.Set{}, set.All()) {
			v, some := sampleOf(cell)
			if got, want := cells.In(cell, s), some && set.Has(s, v); got != want {
				t.Fatalf("In(%v, %v): %v", cell, s, got)
			}
		}
	}
	for _, s := range []api.Set{{}, set.All(), others()} {
		if cells.In(api.Set{}, s) {
			t.Errorf("In of the set of nothing and %v: true", s)
		}
	}
	// The sample alone is asked for.
	if !cells.In(ints(r(1, 9)), ints(r(0, 1))) || cells.In(ints(r(1, 9)), ints(r(2, 20))) {
		t.Error("In of 1 to 9")
	}
}

// P9.1: a cell lies in a set that was cut, or has nothing of it.
func TestInOfCut(t *testing.T) {
	list := sets(somePieces())
	for i, a := range list {
		b := list[(i*11+7)%len(list)]
		for _, cell := range cells.Cut(a, b) {
			for _, s := range []api.Set{a, b} {
				if in := cells.In(cell, s); in != set.In(cell, s) || in == set.Empty(set.And(cell, s)) {
					t.Fatalf("In(%v, %v): %v", cell, s, in)
				}
			}
		}
	}
}
