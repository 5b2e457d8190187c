package dnf_test

import (
	"math"
	"slices"

	"arbour/api"
)

// greatSets are right, and not small; fullSets just small.
func greatSets() []api.Set {
	var numbers []api.Range
	var texts []string
	for i := range 7 {
		numbers = append(numbers, r(2*i, 2*i))
		texts = append(texts, string(rune('a'+i)))
	}
	return []api.Set{ints(numbers...), strs(texts...), others(texts...), {Ints: numbers, Strs: texts}}
}

func fullSets() []api.Set {
	out := greatSets()
	for i, s := range out {
		out[i].Ints, out[i].Strs = s.Ints[:min(len(s.Ints), 6)], s.Strs[:min(len(s.Strs), 6)]
	}
	return out
}

// wrongSets aren't right; but for the last two they are small.
func wrongSets() []api.Set {
	return []api.Set{
		ints(r(2, 1)), ints(r(math.MaxInt, math.MinInt)), ints(r(5, 6), r(1, 2)), ints(r(1, 2), r(3, 4)), ints(r(1, 5), r(2, 3)),
		ints(r(math.MinInt, math.MaxInt), r(math.MinInt, math.MaxInt)), ints(r(math.MaxInt, math.MaxInt), r(math.MinInt, math.MinInt)),
		strs("b", "a"), strs("a", "a"), strs("123456789"), others("b", "a"), others("a", "a"), others("123456789"),
		{Absent: true, Ints: []api.Range{r(3, 2), r(1, 9), r(-5, -8)}, Co: true, Strs: []string{"z", "", "a long string", "", "z"}},
		ints(make([]api.Range, 9)...), strs(make([]string, 9)...),
	}
}

// wrongBoxes: each wrong set in each place, beside right ones, beside empty ones, and beside its like.
func wrongBoxes() []api.Box {
	var out []api.Box
	for _, s := range wrongSets() {
		for attr := range api.Attrs {
			b, c := masks{allPieces, middle, x | notX, absent}.box(), api.Box{}
			b[attr], c[attr] = s, s
			out = append(out, b, c, with(attr, s))
		}
		out = append(out, api.Box{s, s, s, s})
	}
	return out
}

func wrongValues() []api.Value {
	return []api.Value{
		{N: 1}, {S: "x"}, {Kind: api.Int, N: 1, S: "x"}, {Kind: api.Str, N: 1, S: "x"},
		str("123456789"), {Kind: 3}, {Kind: -1}, {Kind: math.MaxInt}, {Kind: math.MinInt},
	}
}

// wrongParts are expressions that mayn't be because of one part alone.
func wrongParts() []api.Expr {
	a := atom(0, ints(r(1, 5)))
	out := []api.Expr{not(), not(a, a), {Kind: api.EAtom, Set: a.Set, Sub: []api.Expr{a}}, {Kind: api.EAtom, Sub: []api.Expr{and()}}}
	for _, kind := range []int{0, 5, 9, -1, math.MinInt, math.MaxInt, 1<<32 + 1} {
		out = append(out, api.Expr{Kind: kind}, api.Expr{Kind: kind, Set: a.Set}, api.Expr{Kind: kind, Sub: []api.Expr{a}})
	}
	for _, attr := range []int{-1, api.Attrs, math.MinInt, math.MaxInt, 1 << 32} {
		out = append(out, atom(attr, a.Set), atom(attr, api.Set{}))
	}
	for _, s := range slices.Concat(greatSets(), wrongSets()) {
		out = append(out, atom(0, s), atom(3, s))
	}
	for _, y := range []api.Expr{and(), or(a, a), not(a)} {
		other, more := y, y
		other.Attr, more.Set = 1, a.Set
		out = append(out, other, more)
	}
	return out
}

// chain lays an expression of that depth.
func chain(depth int) api.Expr {
	y := atom(0, ints(r(1, 5)))
	for i := 1; i < depth; i++ {
		y = []func(...api.Expr) api.Expr{and, or, not}[i%3](y)
	}
	return y
}

// tooLarge are expressions of too many parts, or too deep, or without an end, that are else as they should be.
func tooLarge() []api.Expr {
	many := slices.Repeat([]api.Expr{atom(0, ints(r(1, 5)))}, 40)
	out := []api.Expr{and(many...), or(many...), not(and(many...)), or(and(many[:20]...), or(many[20:]...)), chain(9), chain(50), and(or(), chain(8))}
	for _, kind := range []int{api.EAnd, api.EOr, api.ENot} {
		one, two := make([]api.Expr, 1), make([]api.Expr, 2)
		one[0] = api.Expr{Kind: kind, Sub: one}
		two[0], two[1] = and(), api.Expr{Kind: kind, Sub: two}
		out = append(out, one[0], two[1])
	}
	return out
}

// wrongExprs mayn't be: wrong parts at places that nothing hangs on, too.
func wrongExprs() []api.Expr {
	var out []api.Expr
	for _, y := range wrongParts() {
		out = append(out, y, not(y), and(y), or(y), and(or(), y), or(and(), y), and(y, or()), or(y, and()), not(and(or(), y)), or(and(and(), not(y)), and()))
	}
	return append(out, tooLarge()...)
}
