package box_test

import (
	"math"
	"slices"

	"arbour/api"
	"arbour/set"
)

func number(n int) api.Value { return api.Value{Kind: api.Int, N: n} }

func str(s string) api.Value { return api.Value{Kind: api.Str, S: s} }

func r(lo, hi int) api.Range { return api.Range{Lo: lo, Hi: hi} }

func ints(list ...api.Range) api.Set { return api.Set{Ints: list} }

func strs(list ...string) api.Set { return api.Set{Strs: list} }

func others(list ...string) api.Set { return api.Set{Co: true, Strs: list} }

// All values in six pieces, a bit of a mask for each: the tests lay their sets out of these.
const (
	absent = 1 << iota
	low
	middle
	high
	x
	notX

	pieces    = 6
	allPieces = 1<<pieces - 1
)

func numberPieces() []api.Range {
	return []api.Range{r(math.MinInt, 0), r(1, 5), r(6, math.MaxInt)}
}

// valuesOf answers the values at the edges of a piece.
func valuesOf(piece int) []api.Value {
	switch 1 << piece {
	case absent:
		return []api.Value{{}}
	case x:
		return []api.Value{str("x")}
	case notX:
		return []api.Value{str(""), str("abcdefgh")}
	}
	c := numberPieces()[piece-1]
	return []api.Value{number(c.Lo), number(c.Hi)}
}

// setOf lays the right set of just the pieces whose bits are set, without a call of package set.
func setOf(mask int) api.Set {
	s := api.Set{Absent: mask&absent != 0, Co: mask&notX != 0}
	for i, c := range numberPieces() {
		switch last := len(s.Ints) - 1; {
		case mask&(low<<i) == 0:
		case last >= 0 && s.Ints[last].Hi+1 == c.Lo:
			s.Ints[last].Hi = c.Hi
		default:
			s.Ints = append(s.Ints, c)
		}
	}
	if s.Co != (mask&x != 0) {
		s.Strs = []string{"x"}
	}
	return s
}

// masks are what a box is laid of: the pieces of each of its sets.
type masks [api.Attrs]int

func (m masks) box() api.Box {
	var b api.Box
	for attr, mask := range m {
		b[attr] = setOf(mask)
	}
	return b
}

// manyMasks answers all rows of four of the given masks.
func manyMasks(list ...int) []masks {
	var out []masks
	for _, a := range list {
		for _, b := range list {
			for _, c := range list {
				for _, d := range list {
					out = append(out, masks{a, b, c, d})
				}
			}
		}
	}
	return out
}

// someMasks: none, one piece, two that lie in each other or don't, with Co and without, and all pieces.
func someMasks() []masks {
	return manyMasks(0, middle, absent|x, absent|middle|notX, allPieces)
}

func equalSets(a, b api.Set) bool {
	return a.Absent == b.Absent && a.Co == b.Co && slices.Equal(a.Ints, b.Ints) && slices.Equal(a.Strs, b.Strs)
}

func equal(a, b api.Box) bool {
	for attr := range a {
		if !equalSets(a[attr], b[attr]) {
			return false
		}
	}
	return true
}

func wrongValues() []api.Value {
	return []api.Value{
		{N: 1}, {S: "x"}, {Kind: api.Int, N: 1, S: "x"}, {Kind: api.Str, N: 1, S: "x"},
		str("123456789"), {Kind: 3}, {Kind: -1}, {Kind: math.MaxInt}, {Kind: math.MinInt},
	}
}

func wrongSets() []api.Set {
	return []api.Set{
		ints(r(2, 1)), ints(r(math.MaxInt, math.MinInt)), ints(r(5, 6), r(1, 2)), ints(r(1, 2), r(3, 4)), ints(r(1, 5), r(2, 3)),
		ints(r(math.MinInt, math.MaxInt), r(math.MinInt, math.MaxInt)), ints(r(math.MaxInt, math.MaxInt), r(math.MinInt, math.MinInt)),
		ints(make([]api.Range, 9)...),
		strs("b", "a"), strs("a", "a"), strs("123456789"), strs(make([]string, 9)...),
		others("b", "a"), others("a", "a"), others("123456789"),
		{Absent: true, Ints: []api.Range{r(3, 2), r(1, 9), r(-5, -8)}, Co: true, Strs: []string{"z", "", "a long string", "", "z"}},
	}
}

// wrongBoxes: each wrong set in each place, beside right ones, beside empty ones, and beside its like.
func wrongBoxes() []api.Box {
	var out []api.Box
	for _, s := range wrongSets() {
		for attr := range api.Attrs {
			b, c := masks{allPieces, middle, x | notX, absent}.box(), api.Box{}
			b[attr], c[attr] = s, s
			out = append(out, b, c)
		}
		out = append(out, api.Box{s, s, s, s})
	}
	return out
}

func wrongAttrs() []int {
	return []int{-1, api.Attrs, 5, -2, math.MinInt, math.MaxInt, math.MinInt + 1, 1 << 32, -1 << 32}
}

// all is a second form of box.All.
func all() api.Box { return api.Box{set.All(), set.All(), set.All(), set.All()} }
