package cells_test

import (
	"math"
	"slices"
	"testing"

	"arbour/api"
	"arbour/cells"
	"arbour/set"
)

const low, high = math.MinInt, math.MaxInt

// between lays absent ahead of some cells, and all other strings than those that are named behind them.
func between(list []api.Set, named ...string) []api.Set {
	out := append([]api.Set{{Absent: true}}, list...)
	for _, s := range named {
		out = append(out, strs(s))
	}
	return append(out, others(named...))
}

// parts lays ranges that lie side by side, each beginning at one of the given numbers, and the first one at the least.
func parts(begins ...int) []api.Set {
	var out []api.Set
	lo := low
	for _, next := range begins {
		out = append(out, ints(r(lo, next-1)))
		lo = next
	}
	return append(out, ints(r(lo, high)))
}

// P9.1
func TestCutExamples(t *testing.T) {
	for i, c := range []struct{ list, want []api.Set }{
		{nil, between(parts())},
		{[]api.Set{{}}, between(parts())},
		{[]api.Set{{Absent: true}, {Ints: []api.Range{}, Strs: []string{}}, others()}, between(parts())},
		{[]api.Set{set.All(), set.All()}, between(parts())},
		{[]api.Set{ints(r(1, 5))}, between(parts(1, 6))},
		{[]api.Set{ints(r(5, 5))}, between(parts(5, 6))},
		{[]api.Set{ints(r(1, 5)), ints(r(6, 9))}, between(parts(1, 6, 10))},
		{[]api.Set{ints(r(6, 9)), ints(r(1, 5))}, between(parts(1, 6, 10))},
		{[]api.Set{ints(r(1, 9)), ints(r(2, 3)), ints(r(1, 3))}, between(parts(1, 2, 4, 10))},
		{[]api.Set{ints(r(1, 5)), ints(r(5, 9))}, between(parts(1, 5, 6, 10))},
		{[]api.Set{ints(r(1, 5)), ints(r(1, 5)), ints(r(1, 5))}, between(parts(1, 6))},
		{[]api.Set{ints(r(low, low))}, between(parts(low + 1))},
		{[]api.Set{ints(r(high, high))}, between(parts(high))},
		{[]api.Set{ints(r(low, high))}, between(parts())},
		{[]api.Set{ints(r(low, 0)), ints(r(0, high))}, between(parts(0, 1))},
		{[]api.Set{ints(r(low+1, high-1))}, between(parts(low+1, high))},
		{[]api.Set{ints(r(low, low), r(high, high))}, between(parts(low+1, high))},
		{[]api.Set{ints(r(-3, -3), r(-1, -1), r(1, 1))}, between(parts(-3, -2, -1, 0, 1, 2))},
		{[]api.Set{strs("a")}, between(parts(), "a")},
		{[]api.Set{others("a")}, between(parts(), "a")},
		{[]api.Set{strs("b", "c"), others("a", "b")}, between(parts(), "a", "b", "c")},
		{[]api.Set{strs("b"), strs("a"), strs("")}, between(parts(), "", "a", "b")},
		{[]api.Set{strs("B", "a", "aa", "b", "\xff"), others("", "\x00")}, between(parts(), "", "\x00", "B", "a", "aa", "b", "\xff")},
		{[]api.Set{{Absent: true, Ints: []api.Range{r(0, 1)}, Strs: []string{"x"}}}, between(parts(0, 2), "x")},
	} {
		if got := cells.Cut(c.list...); !equalLists(got, c.want) {
			t.Errorf("%d: Cut(%v): %v, not %v", i, c.list, got, c.want)
		}
	}
}

func checkCut(t *testing.T, list ...pieces) {
	t.Helper()
	got, want := cells.Cut(sets(list)...), cellsOf(list)
	if !equalLists(got, want) {
		t.Fatalf("Cut(%v): %v, not %v", sets(list), got, want)
	}
}

// P9.1: each two sets of numbers, and each two sets of strings.
func TestCutAllPairs(t *testing.T) {
	for a := range allNumbers + 1 {
		checkCut(t, pieces{numbers: a})
		for b := range a + 1 {
			// Each pair in one order; which order that is changes with the pair.
			x, y := pieces{a&1 == 0, a, b & allStrings}, pieces{b&2 == 0, b, a & allStrings}
			if (a+b)%3 == 0 {
				x, y = y, x
			}
			checkCut(t, x, y)
		}
	}
	for a := range allStrings + 1 {
		checkCut(t, pieces{strings: a})
		for b := range allStrings + 1 {
			checkCut(t, pieces{strings: a}, pieces{strings: b})
		}
	}
}

// P9.1
func TestCutManySets(t *testing.T) {
	list := somePieces()
	for i := range list {
		for step := 1; step < len(list); step += 7 {
			var some []pieces
			for k := range i % 9 {
				some = append(some, list[(i+k*step)%len(list)])
			}
			checkCut(t, some...)
		}
	}
	checkCut(t, list...)
}

// P9.1: each is a right set that has something; each set has all of its values, or none; each value is in one.
func TestCellsAreAsTheyShouldBe(t *testing.T) {
	list := sets(somePieces())
	for i, a := range list {
		b, c := list[(i*5+3)%len(list)], list[(i*11+7)%len(list)]
		got := cells.Cut(a, b, c)
		for _, cell := range got {
			if !set.Right(cell) || set.Empty(cell) {
				t.Fatalf("Cut(%v, %v, %v): the cell %v", a, b, c, cell)
			}
			for _, s := range []api.Set{a, b, c} {
				if !set.In(cell, s) && !set.Empty(set.And(cell, s)) {
					t.Fatalf("%v cuts %v", s, cell)
				}
			}
		}
		for _, v := range someValues() {
			n := 0
			for _, cell := range got {
				if set.Has(cell, v) {
					n++
				}
			}
			if n != 1 {
				t.Fatalf("Cut(%v, %v, %v): %d cells have %v", a, b, c, n, v)
			}
		}
	}
}

// P9.1: sets that aren't right cut nothing, whatever stands beside them.
func TestCutLeavesOutWrongSets(t *testing.T) {
	none := between(parts())
	if got := cells.Cut(wrongSets()...); !equalLists(got, none) {
		t.Errorf("Cut of wrong sets: %v", got)
	}
	for i, wrong := range wrongSets() {
		if got := cells.Cut(wrong); !equalLists(got, none) {
			t.Errorf("Cut(%v): %v", wrong, got)
		}
		for k := range 20 {
			some := somePieces()[(i*20+k)%100 : (i*20+k)%100+3]
			for at := range 4 {
				list := slices.Insert(sets(some), at, wrong)
				if got, want := cells.Cut(list...), cellsOf(some); !equalLists(got, want) {
					t.Fatalf("Cut(%v): %v, not %v", list, got, want)
				}
			}
		}
	}
}

// P9.1: sets may be greater than those of a filter.
func TestCutGreatSets(t *testing.T) {
	const n = 20000
	var ranges []api.Range
	var list []api.Set
	begins := []int{}
	for i := range n {
		ranges = append(ranges, r(4*i, 4*i+1))
		begins = append(begins, 4*i, 4*i+2)
		list = append(list, ints(r(4*(n-1-i), 4*(n-1-i)+1)))
	}
	want := between(parts(begins...))
	if got := cells.Cut(ints(ranges...)); !equalLists(got, want) {
		t.Errorf("one set of many ranges: %d cells", len(got))
	}
	if got := cells.Cut(list...); !equalLists(got, want) {
		t.Errorf("many sets: %d cells", len(got))
	}
	if got := cells.Cut(others(manyNames(n)...)); len(got) != n+3 || len(got[n+2].Strs) != n || !set.Right(got[n+2]) {
		t.Errorf("one set of many strings: %d cells", len(got))
	}
}
