package cells_test

import (
	"math"
	"slices"

	"arbour/api"
)

func number(n int) api.Value { return api.Value{Kind: api.Int, N: n} }

func str(s string) api.Value { return api.Value{Kind: api.Str, S: s} }

func r(lo, hi int) api.Range { return api.Range{Lo: lo, Hi: hi} }

func ints(list ...api.Range) api.Set { return api.Set{Ints: list} }

func strs(list ...string) api.Set { return api.Set{Strs: list} }

func others(list ...string) api.Set { return api.Set{Co: true, Strs: list} }

// equal holds two sets against each other without a call of package set; nil and an empty list are one.
func equal(a, b api.Set) bool {
	return a.Absent == b.Absent && a.Co == b.Co && slices.Equal(a.Ints, b.Ints) && slices.Equal(a.Strs, b.Strs)
}

func equalLists(a, b []api.Set) bool { return slices.EqualFunc(a, b, equal) }

// numberPieces: all numbers in parts, the edges of int among them: the tests lay their sets out of these.
func numberPieces() []api.Range {
	return []api.Range{
		r(math.MinInt, math.MinInt), r(math.MinInt+1, math.MinInt+1), r(math.MinInt+2, -1),
		r(0, 0), r(1, 1), r(2, 2),
		r(3, math.MaxInt-2), r(math.MaxInt-1, math.MaxInt-1), r(math.MaxInt, math.MaxInt),
	}
}

// names: the strings that the tests' sets name, rising.
func names() []string { return []string{"", "a", "abcdefgh", "\xff"} }

const (
	allNumbers = 1<<9 - 1
	allStrings = 1<<5 - 1
)

// pieces are what a set is laid of: a bit for each piece of the numbers, and for each name; the last one of these for all other strings.
type pieces struct {
	absent           bool
	numbers, strings int
}

func (p pieces) co() bool { return p.strings>>len(names())&1 == 1 }

// set lays the right set of just these pieces, without a call of package set.
func (p pieces) set() api.Set {
	s := api.Set{Absent: p.absent, Co: p.co()}
	for i, piece := range numberPieces() {
		switch {
		case p.numbers>>i&1 == 0:
		case i > 0 && p.numbers>>(i-1)&1 == 1:
			s.Ints[len(s.Ints)-1].Hi = piece.Hi
		default:
			s.Ints = append(s.Ints, piece)
		}
	}
	for i := range names() {
		if p.names(i) {
			s.Strs = append(s.Strs, names()[i])
		}
	}
	return s
}

// names tells whether the set names a string, as one that it has or, with Co, as one that it hasn't.
func (p pieces) names(i int) bool { return (p.strings>>i&1 == 1) != p.co() }

func sets(list []pieces) []api.Set {
	var out []api.Set
	for _, p := range list {
		out = append(out, p.set())
	}
	return out
}

// cellsOf is a second form of Cut: pieces of numbers beside one another are in one cell, if each set has both, or none.
func cellsOf(list []pieces) []api.Set {
	out := []api.Set{{Absent: true}}
	for i, piece := range numberPieces() {
		parts := func(p pieces) bool { return p.numbers>>i&1 != p.numbers>>(i-1)&1 }
		if i == 0 || slices.ContainsFunc(list, parts) {
			out = append(out, ints(piece))
		} else {
			out[len(out)-1].Ints[0].Hi = piece.Hi
		}
	}
	rest := others()
	for i, name := range names() {
		if slices.ContainsFunc(list, func(p pieces) bool { return p.names(i) }) {
			out = append(out, strs(name))
			rest.Strs = append(rest.Strs, name)
		}
	}
	return append(out, rest)
}

// somePieces: right sets of all kinds.
func somePieces() []pieces {
	var out []pieces
	for _, numbers := range []int{0, 1, 2, 0b101, 0b111, 0b1010, 0b11000, 0b100000000, 0b110000001, 0b101010101, allNumbers - 1, allNumbers} {
		for _, strings := range []int{0, 1, 6, 9, 15, 16, 22, 25, allStrings} {
			out = append(out, pieces{false, numbers, strings}, pieces{true, numbers, strings})
		}
	}
	return out
}

func someValues() []api.Value {
	out := []api.Value{{}, number(-7), number(1000)}
	for _, p := range numberPieces() {
		out = append(out, number(p.Lo), number(p.Hi))
	}
	for _, s := range append(names(), "b", "abcdefg", "hgfedcba", "~0", "~1") {
		out = append(out, str(s))
	}
	return out
}

func wrongValues() []api.Value {
	return []api.Value{
		{N: 1}, {S: "a"}, {Kind: api.Int, N: 1, S: "a"}, {Kind: api.Str, N: 1, S: "a"},
		str("123456789"), {Kind: 3}, {Kind: -1}, {Kind: math.MaxInt}, {Kind: math.MinInt},
	}
}

func wrongSets() []api.Set {
	return []api.Set{
		ints(r(2, 1)), ints(r(math.MaxInt, math.MinInt)), ints(r(5, 6), r(1, 2)), ints(r(1, 2), r(1, 2)),
		ints(r(1, 2), r(3, 4)), ints(r(1, 5), r(2, 3)), ints(r(1, 3), r(3, 5)), ints(r(1, 2), r(5, 4)),
		ints(r(math.MaxInt, math.MaxInt), r(math.MinInt, math.MinInt)), ints(r(math.MinInt, math.MaxInt), r(math.MinInt, math.MaxInt)),
		strs("b", "a"), strs("a", "a"), strs("123456789"), strs("a", "c", "b"), strs("z", "123456789", "a", "z"),
		others("b", "a"), others("a", "a"), others("123456789"), others("z", "y", "x", "x", "y"), others("~1", "~0"),
		{Absent: true, Ints: []api.Range{r(2, 1)}}, {Absent: true, Strs: []string{"q", "p"}},
		{Absent: true, Ints: []api.Range{r(3, 2), r(1, 9), r(-5, -8)}, Co: true, Strs: []string{"z", "", "a long string", "", "z"}},
	}
}
