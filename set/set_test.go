package set_test

import (
	"math"
	"slices"
	"testing"

	"arbour/api"
	"arbour/set"
)

func number(n int) api.Value { return api.Value{Kind: api.Int, N: n} }

func str(s string) api.Value { return api.Value{Kind: api.Str, S: s} }

func r(lo, hi int) api.Range { return api.Range{Lo: lo, Hi: hi} }

func ints(list ...api.Range) api.Set { return api.Set{Ints: list} }

func strs(list ...string) api.Set { return api.Set{Strs: list} }

func others(list ...string) api.Set { return api.Set{Co: true, Strs: list} }

// equal is a second form of Same, and holds nil and an empty list for one.
func equal(a, b api.Set) bool {
	if len(a.Ints) != len(b.Ints) || len(a.Strs) != len(b.Strs) {
		return false
	}
	for i := range a.Ints {
		if a.Ints[i].Lo != b.Ints[i].Lo || a.Ints[i].Hi != b.Ints[i].Hi {
			return false
		}
	}
	for i := range a.Strs {
		if a.Strs[i] != b.Strs[i] {
			return false
		}
	}
	return a.Absent == b.Absent && a.Co == b.Co
}

// numberCells: all numbers in parts, the edges of int among them, out of which the tests lay all sets.
func numberCells() []api.Range {
	return []api.Range{
		r(math.MinInt, math.MinInt), r(math.MinInt+1, math.MinInt+1), r(math.MinInt+2, -1),
		r(0, 0), r(1, 1), r(2, 2),
		r(3, math.MaxInt-2), r(math.MaxInt-1, math.MaxInt-1), r(math.MaxInt, math.MaxInt),
	}
}

// ofCells lays the right set of just the cells whose bit is set.
func ofCells(mask int) []api.Range {
	var out []api.Range
	before := false
	for i, c := range numberCells() {
		has := mask>>i&1 == 1
		if has && before {
			out[len(out)-1].Hi = c.Hi
		} else if has {
			out = append(out, c)
		}
		before = has
	}
	return out
}

// names: strings that the tests name, rising; the last bit of their masks stands for all others.
func names() []string { return []string{"", "a", "abcdefgh", "\xff"} }

func ofNames(mask int) (co bool, list []string) {
	co = mask>>len(names())&1 == 1
	for i, s := range names() {
		if (mask>>i&1 == 1) != co {
			list = append(list, s)
		}
	}
	return co, list
}

func setOf(absent bool, cells, strings int) api.Set {
	co, list := ofNames(strings)
	return api.Set{Absent: absent, Ints: ofCells(cells), Co: co, Strs: list}
}

const (
	allCells   = 1<<9 - 1
	allStrings = 1<<5 - 1
)

// someSets: right sets of all kinds, enough of them to go through all pairs.
func someSets() []api.Set {
	var out []api.Set
	for _, cells := range []int{0, 1, 2, 4, 0b101, 0b111, 0b1010, 0b10000, 0b11000, 0b100000000, 0b110000001, 0b101010101, 0b010101010, allCells - 1, allCells >> 1, allCells} {
		for _, strings := range []int{0, 1, 2, 6, 9, 15, 16, 17, 22, 25, 30, allStrings} {
			out = append(out, setOf(false, cells, strings), setOf(true, cells, strings))
		}
	}
	return out
}

func someValues() []api.Value {
	out := []api.Value{{}, number(-7), number(1000)}
	for _, c := range numberCells() {
		out = append(out, number(c.Lo), number(c.Hi))
	}
	for _, s := range append(names(), "b", "abcdefg", "hgfedcba") {
		out = append(out, str(s))
	}
	return out
}

func wrongValues() []api.Value {
	return []api.Value{
		{N: 1}, {S: "a"}, {Kind: api.Int, N: 1, S: "a"}, {Kind: api.Str, N: 1, S: "a"},
		str("123456789"), {Kind: 3}, {Kind: -1}, {Kind: math.MaxInt},
	}
}

func wrongSets() []api.Set {
	return []api.Set{
		ints(r(2, 1)), ints(r(math.MaxInt, math.MinInt)), ints(r(5, 6), r(1, 2)), ints(r(1, 2), r(1, 2)),
		ints(r(1, 2), r(3, 4)), ints(r(1, 5), r(2, 3)), ints(r(1, 3), r(2, 5)), ints(r(1, 3), r(3, 5)),
		ints(r(1, 2), r(5, 4)), ints(r(0, 1), r(9, 9), r(5, 5)),
		ints(r(math.MinInt, math.MinInt), r(math.MinInt, math.MinInt)), ints(r(math.MaxInt, math.MaxInt), r(math.MinInt, math.MinInt)),
		ints(r(math.MinInt, math.MaxInt), r(math.MinInt, math.MaxInt)), ints(r(0, math.MaxInt), r(math.MaxInt, math.MaxInt)),
		ints(r(math.MinInt, 0), r(1, math.MaxInt)), ints(r(math.MaxInt-1, math.MaxInt-1), r(math.MaxInt, math.MaxInt)),
		strs("b", "a"), strs("a", "a"), strs("", ""), strs("123456789"), strs("a", "b", "b"), strs("a", "c", "b"),
		others("b", "a"), others("a", "a"), others("123456789"), others("z", "y", "x", "x", "y"),
		{Absent: true, Ints: []api.Range{r(3, 2), r(1, 9), r(-5, -8)}, Co: true, Strs: []string{"z", "", "a long string", "", "z"}},
	}
}

// P3.1
func TestAll(t *testing.T) {
	want := api.Set{Absent: true, Ints: []api.Range{r(math.MinInt, math.MaxInt)}, Co: true}
	s := set.All()
	if !equal(s, want) || !set.Right(s) {
		t.Fatalf("All(): %v", s)
	}
	for _, v := range someValues() {
		if !set.Has(s, v) {
			t.Errorf("All() has not %v", v)
		}
	}
	s.Ints[0] = r(1, 2)
	if !equal(set.All(), want) {
		t.Error("All() changed with an earlier answer")
	}
}

// P3.1
func TestRight(t *testing.T) {
	for _, s := range someSets() {
		if !set.Right(s) {
			t.Errorf("Right(%v): false", s)
		}
	}
	for _, s := range []api.Set{
		{}, {Ints: []api.Range{}, Strs: []string{}}, {Absent: true}, others(), others(""),
		ints(r(1, 1)), ints(r(1, 2), r(4, 4)), ints(r(math.MinInt, math.MinInt), r(math.MinInt+2, math.MaxInt)),
		ints(r(math.MinInt, math.MaxInt-2), r(math.MaxInt, math.MaxInt)),
		ints(r(1, 1), r(3, 3), r(5, 5), r(7, 7), r(9, 9), r(11, 11), r(13, 13)),
		strs(""), strs("12345678"), strs("", "\x00", "\x00\x00", "a", "aa", "b", "\xff"),
	} {
		if !set.Right(s) {
			t.Errorf("Right(%v): false", s)
		}
	}
	for _, s := range wrongSets() {
		if set.Right(s) {
			t.Errorf("Right(%v): true", s)
		}
	}
}

// P3.1
func TestSmall(t *testing.T) {
	six := []api.Range{r(1, 1), r(3, 3), r(5, 5), r(7, 7), r(9, 9), r(11, 11)}
	seven := append(slices.Clone(six), r(13, 13))
	names6 := []string{"a", "b", "c", "d", "e", "f"}
	names7 := append(slices.Clone(names6), "g")
	for _, s := range []api.Set{{}, set.All(), ints(six...), strs(names6...), others(names6...), {Absent: true, Ints: six, Co: true, Strs: names6}, strs("much longer than 8 bytes")} {
		if !set.Small(s) {
			t.Errorf("Small(%v): false", s)
		}
	}
	for _, s := range []api.Set{ints(seven...), strs(names7...), others(names7...), {Ints: six, Strs: names7}, {Ints: seven, Strs: names6}, {Ints: seven, Strs: names7}, strs(make([]string, 7)...)} {
		if set.Small(s) {
			t.Errorf("Small(%v): true", s)
		}
	}
}

// P3.1
func TestSame(t *testing.T) {
	list := append(someSets(), wrongSets()...)
	for _, a := range list {
		for _, b := range list {
			if set.Same(a, b) != equal(a, b) {
				t.Fatalf("Same(%v, %v): %v", a, b, set.Same(a, b))
			}
		}
	}
	if !set.Same(api.Set{}, api.Set{Ints: []api.Range{}, Strs: []string{}}) {
		t.Error("nil and an empty list are one")
	}
	// The same values, but other fields.
	for i, b := range []api.Set{{Absent: true, Ints: []api.Range{r(1, 4)}, Strs: []string{"a"}}, {Absent: true, Ints: []api.Range{r(1, 2), r(3, 4)}, Strs: []string{"a", "a"}}, {Absent: true, Ints: []api.Range{r(1, 2), r(3, 4), r(5, 4)}, Strs: []string{"a"}}} {
		a := api.Set{Absent: true, Ints: []api.Range{r(1, 2), r(3, 4)}, Strs: []string{"a"}}
		if set.Same(a, b) || set.Same(b, a) {
			t.Errorf("%d: Same(%v, %v)", i, a, b)
		}
	}
}

// P3.2
func TestHas(t *testing.T) {
	for cells := range allCells + 1 {
		s := setOf(false, cells, 0)
		for i, c := range numberCells() {
			want := cells>>i&1 == 1
			if set.Has(s, number(c.Lo)) != want || set.Has(s, number(c.Hi)) != want {
				t.Fatalf("Has(%v, %v): not %v", s, c, want)
			}
		}
	}
	for strings := range allStrings + 1 {
		s := setOf(false, 0, strings)
		for i, name := range append(names(), "other") {
			if want := strings>>i&1 == 1; set.Has(s, str(name)) != want {
				t.Fatalf("Has(%v, %q): not %v", s, name, want)
			}
		}
	}
	for _, s := range someSets() {
		if set.Has(s, api.Value{}) != s.Absent {
			t.Fatalf("Has(%v, absent)", s)
		}
		for _, v := range wrongValues() {
			if set.Has(s, v) {
				t.Fatalf("Has(%v, %v)", s, v)
			}
		}
	}
}

// P3.2
func TestNot(t *testing.T) {
	for cells := range allCells + 1 {
		for strings := range allStrings + 1 {
			for _, absent := range []bool{false, true} {
				s, want := setOf(absent, cells, strings), setOf(!absent, allCells-cells, allStrings-strings)
				if got := set.Not(s); !equal(got, want) {
					t.Fatalf("Not(%v): %v, not %v", s, got, want)
				}
			}
		}
	}
	if got := set.Not(ints(r(7, 7))); !equal(got, api.Set{Absent: true, Ints: []api.Range{r(math.MinInt, 6), r(8, math.MaxInt)}, Co: true}) {
		t.Errorf("not of {7}: %v", got)
	}
	if got := set.Not(api.Set{}); !equal(got, set.All()) {
		t.Errorf("not of nothing: %v", got)
	}
	if got := set.Not(set.All()); !equal(got, api.Set{}) {
		t.Errorf("not of everything: %v", got)
	}
}

// pairsOf calls check for enough pairs of right sets, with the pieces that each one is made of.
func pairsOf(check func(absentA, absentB bool, cellsA, cellsB, stringsA, stringsB int)) {
	for a := range allCells + 1 {
		for b := range allCells + 1 {
			// The fields don't hang on each other, so strings and absence go through all pairs beside the numbers.
			check(b&1 == 1, b&2 == 2, a, b, a&allStrings, b&allStrings)
		}
	}
	for a := range allStrings + 1 {
		for b := range allStrings + 1 {
			for k := range 4 {
				check(k&1 == 1, k&2 == 2, 0, 0, a, b)
			}
		}
	}
}

// P3.2
func TestOrAndIn(t *testing.T) {
	pairsOf(func(absentA, absentB bool, cellsA, cellsB, stringsA, stringsB int) {
		a, b := setOf(absentA, cellsA, stringsA), setOf(absentB, cellsB, stringsB)
		if got, want := set.Or(a, b), setOf(absentA || absentB, cellsA|cellsB, stringsA|stringsB); !equal(got, want) {
			t.Fatalf("Or(%v, %v): %v, not %v", a, b, got, want)
		}
		if got, want := set.And(a, b), setOf(absentA && absentB, cellsA&cellsB, stringsA&stringsB); !equal(got, want) {
			t.Fatalf("And(%v, %v): %v, not %v", a, b, got, want)
		}
		want := (!absentA || absentB) && cellsA&^cellsB == 0 && stringsA&^stringsB == 0
		if set.In(a, b) != want {
			t.Fatalf("In(%v, %v): not %v", a, b, want)
		}
	})
}

// P3.2
func TestOrAndManyParts(t *testing.T) {
	six := ints(r(1, 1), r(3, 3), r(5, 5), r(7, 7), r(9, 9), r(11, 11))
	if got := set.Or(six, ints(r(13, 13))); len(got.Ints) != 7 || !set.Right(got) {
		t.Errorf("seven ranges: %v", got)
	}
	if got := set.Or(six, ints(r(2, 2), r(4, 10))); !equal(got, ints(r(1, 11))) {
		t.Errorf("ranges that fill the gaps: %v", got)
	}
	if got := set.And(ints(r(0, 6), r(8, 20)), six); !equal(got, ints(r(1, 1), r(3, 3), r(5, 5), r(9, 9), r(11, 11))) {
		t.Errorf("ranges within ranges: %v", got)
	}
	if got := set.Or(strs("a", "c", "e", "g", "i", "k"), strs("b", "c", "d")); !equal(got, strs("a", "b", "c", "d", "e", "g", "i", "k")) {
		t.Errorf("strings: %v", got)
	}
	if got := set.And(others("a", "c"), others("b", "c")); !equal(got, others("a", "b", "c")) {
		t.Errorf("all strings but some: %v", got)
	}
}

// P3.2
func TestEmpty(t *testing.T) {
	for _, s := range someSets() {
		want := true
		for _, v := range someValues() {
			want = want && !set.Has(s, v)
		}
		if set.Empty(s) != want {
			t.Errorf("Empty(%v): not %v", s, want)
		}
	}
	if !set.Empty(api.Set{}) || !set.Empty(api.Set{Ints: []api.Range{}, Strs: []string{}}) {
		t.Error("the set of nothing is empty")
	}
	for _, s := range []api.Set{{Absent: true}, ints(r(0, 0)), strs(""), others(), others("", "a"), set.All()} {
		if set.Empty(s) {
			t.Errorf("Empty(%v)", s)
		}
	}
}

// P3.3
func TestRules(t *testing.T) {
	list := someSets()
	for _, a := range list {
		if !set.Same(set.Not(set.Not(a)), a) {
			t.Fatalf("not of not of %v: %v", a, set.Not(set.Not(a)))
		}
		for _, v := range someValues() {
			if set.Has(a, v) == set.Has(set.Not(a), v) {
				t.Fatalf("%v is in both or in none of %v and its not", v, a)
			}
		}
		for _, b := range list {
			if !set.Same(set.Not(set.Or(a, b)), set.And(set.Not(a), set.Not(b))) {
				t.Fatalf("not of or: %v, %v", a, b)
			}
			if !set.Same(set.Not(set.And(a, b)), set.Or(set.Not(a), set.Not(b))) {
				t.Fatalf("not of and: %v, %v", a, b)
			}
		}
	}
}

// P3.2
func TestSameJustIfSameValues(t *testing.T) {
	list := someSets()
	for _, a := range list {
		for _, b := range list {
			if set.Same(a, b) != (set.In(a, b) && set.In(b, a)) {
				t.Fatalf("%v, %v", a, b)
			}
		}
	}
}
