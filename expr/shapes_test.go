package expr_test

import (
	"math"
	"slices"

	"arbour/api"
)

func number(n int) api.Value { return api.Value{Kind: api.Int, N: n} }

func str(s string) api.Value { return api.Value{Kind: api.Str, S: s} }

func r(lo, hi int) api.Range { return api.Range{Lo: lo, Hi: hi} }

func ints(list ...api.Range) api.Set { return api.Set{Ints: list} }

func strs(list ...string) api.Set { return api.Set{Strs: list} }

// The tests lay their expressions without a call of package expr, so that they don't lean on what they test.
func atom(attr int, s api.Set) api.Expr { return api.Expr{Kind: api.EAtom, Attr: attr, Set: s} }

func and(list ...api.Expr) api.Expr { return api.Expr{Kind: api.EAnd, Sub: list} }

func or(list ...api.Expr) api.Expr { return api.Expr{Kind: api.EOr, Sub: list} }

func not(list ...api.Expr) api.Expr { return api.Expr{Kind: api.ENot, Sub: list} }

// atoms answers n atoms, no two of them the same.
func atoms(n int) []api.Expr {
	var out []api.Expr
	for i := range n {
		out = append(out, atom(i%api.Attrs, ints(r(i, i))))
	}
	return out
}

// chain lays an expression of that depth, with one Sub at each step down.
func chain(depth int) api.Expr {
	x := atom(0, ints(r(1, 5)))
	for i := 1; i < depth; i++ {
		x = []func(...api.Expr) api.Expr{and, or, not}[i%3](x)
	}
	return x
}

// comb lays an expression of that depth, with a second Sub ahead of or behind the one that goes down.
func comb(depth int) api.Expr {
	x := and()
	for i := 1; i < depth; i++ {
		if i%2 == 0 {
			x = or(atom(1, strs("x")), x)
		} else {
			x = and(x, atom(2, strs("y")))
		}
	}
	return x
}

// fullTree lays an expression of that depth, each of whose parts but the last ones has n Sub.
func fullTree(n, depth int) api.Expr {
	if depth == 1 {
		return or()
	}
	return and(slices.Repeat([]api.Expr{fullTree(n, depth-1)}, n)...)
}

// smallSets are right and small, those just at the limits among them.
func smallSets() []api.Set {
	full := api.Set{Absent: true, Co: true}
	for i := range api.MaxRanges {
		full.Ints = append(full.Ints, r(2*i, 2*i))
	}
	for i := range api.MaxStrings {
		full.Strs = append(full.Strs, string(rune('a'+i)))
	}
	return []api.Set{
		{}, {Ints: []api.Range{}, Strs: []string{}}, {Absent: true}, {Co: true}, full,
		{Absent: true, Ints: []api.Range{r(math.MinInt, math.MaxInt)}, Co: true},
		{Ints: full.Ints}, {Strs: full.Strs}, {Co: true, Strs: full.Strs}, strs("", "abcdefgh"),
	}
}

// greatSets are right, and not small.
func greatSets() []api.Set {
	var numbers []api.Range
	var texts []string
	for i := range 7 {
		numbers = append(numbers, r(2*i, 2*i))
		texts = append(texts, string(rune('a'+i)))
	}
	return []api.Set{{Ints: numbers}, {Strs: texts}, {Co: true, Strs: texts}, {Ints: numbers, Strs: texts}}
}

// wrongSets are small, and not right; but for the last two, which are neither.
func wrongSets() []api.Set {
	return []api.Set{
		ints(r(2, 1)), ints(r(math.MaxInt, math.MinInt)), ints(r(5, 6), r(1, 2)), ints(r(1, 2), r(3, 4)), ints(r(1, 5), r(2, 3)),
		strs("b", "a"), strs("a", "a"), strs("123456789"), {Co: true, Strs: []string{"b", "a"}},
		{Absent: true, Ints: []api.Range{r(3, 2), r(1, 9), r(-5, -8)}, Co: true, Strs: []string{"z", "", "a long string", "", "z"}},
		ints(make([]api.Range, 9)...), strs(make([]string, 9)...),
	}
}

// somethingSets are sets that aren't zero: none but an atom may have one.
func somethingSets() []api.Set {
	return []api.Set{{Absent: true}, {Co: true}, ints(r(0, 0)), strs(""), ints(r(1, 0)), strs("b", "a")}
}

func wrongAttrs() []int {
	return []int{-1, api.Attrs, 5, -2, math.MinInt, math.MaxInt, 1 << 32, -1 << 32}
}

func wrongKinds() []int {
	return []int{0, 5, -1, 6, math.MinInt, math.MaxInt, 1 << 32, 1<<32 + 1}
}

// wrongParts are expressions that mayn't be because of one part alone: no deeper, and of no more parts than may be.
func wrongParts() []api.Expr {
	a := atom(0, ints(r(1, 5)))
	out := []api.Expr{not(), not(a, a), not(a, a, a), {Kind: api.EAtom, Set: a.Set, Sub: []api.Expr{a}}, {Kind: api.EAtom, Sub: []api.Expr{and(), or()}}}
	for _, kind := range wrongKinds() {
		out = append(out, api.Expr{Kind: kind}, api.Expr{Kind: kind, Set: a.Set}, api.Expr{Kind: kind, Sub: []api.Expr{a}})
	}
	for _, attr := range wrongAttrs() {
		out = append(out, atom(attr, a.Set), atom(attr, api.Set{}))
	}
	for _, s := range slices.Concat(greatSets(), wrongSets()) {
		out = append(out, atom(0, s), atom(3, s))
	}
	for _, x := range []api.Expr{and(), and(a), or(), or(a, a), not(a)} {
		for _, attr := range append(wrongAttrs(), 1, 2, 3) {
			y := x
			y.Attr = attr
			out = append(out, y)
		}
		for _, s := range somethingSets() {
			y := x
			y.Set = s
			out = append(out, y)
		}
	}
	return out
}

// endless are expressions that hold themselves.
func endless() []api.Expr {
	var out []api.Expr
	for _, kind := range []int{api.ENot, api.EAnd, api.EOr, api.EAtom, 0} {
		one, two := make([]api.Expr, 1), make([]api.Expr, 2)
		one[0] = api.Expr{Kind: kind, Sub: one}
		two[0], two[1] = api.Expr{Kind: kind, Sub: two}, api.Expr{Kind: kind, Sub: two}
		last := []api.Expr{and(), atom(0, ints(r(1, 5))), {}}
		last[2] = api.Expr{Kind: kind, Sub: last}
		out = append(out, one[0], two[0], last[2])
	}
	return out
}

// doubled holds the same list twice at each step down: far more parts than anything could go through.
func doubled(depth int) api.Expr {
	x := or()
	for range depth {
		x = and(x, x)
	}
	return x
}

// tooLarge are expressions of too many parts, or too deep, that are else as they should be.
func tooLarge() []api.Expr {
	out := []api.Expr{
		and(atoms(40)...), or(atoms(41)...), or(or(atoms(20)...), and(atoms(20)...)), not(and(atoms(39)...)),
		and(atoms(1 << 16)...), and(and(), or(atoms(1<<12)...)),
		chain(9), chain(10), chain(41), chain(1 << 16), comb(9), comb(20), comb(21), comb(1 << 12),
		and(and(), chain(8)), or(atom(0, api.Set{}), and(), not(chain(7))),
		fullTree(3, 5), fullTree(6, 3), fullTree(2, 9), doubled(60), doubled(1 << 12),
	}
	return append(out, endless()...)
}

// within lays wrong parts at all places below others: where a look that ends early would miss them.
func within(x api.Expr) []api.Expr {
	return []api.Expr{
		x, not(x), not(not(x)), and(x), or(x), and(or(), x), or(and(), x), and(x, or()), or(x, and()),
		not(and(or(), x)), not(or(and(), x)), and(and(), or(and(), not(x))), or(atom(0, ints(r(1, 5))), and(atoms(5)...), x),
	}
}

// wrongExprs are expressions of all sorts that mayn't be.
func wrongExprs() []api.Expr {
	var out []api.Expr
	for _, x := range wrongParts() {
		out = append(out, within(x)...)
	}
	return append(out, tooLarge()...)
}

// rightExprs are expressions that may be, those at the edges among them.
func rightExprs() []api.Expr {
	a := atom(0, ints(r(1, 5)))
	out := []api.Expr{
		and(), or(), {Kind: api.EAnd, Sub: []api.Expr{}, Set: api.Set{Ints: []api.Range{}, Strs: []string{}}}, {Kind: api.EAtom, Sub: []api.Expr{}},
		and(a), or(a), and(a, a), or(a, and()), not(a), not(and()), not(or()), and(atoms(3)...), or(atoms(7)...),
		and(atoms(39)...), or(atoms(39)...), not(and(atoms(38)...)), or(or(atoms(19)...), and(atoms(18)...)),
		and(or(atoms(11)...), not(and(atoms(9)...)), or(and(atoms(11)...), not(not(or())))),
		chain(7), chain(8), comb(7), comb(8), and(append(atoms(31), chain(7), and())...), and(append(atoms(32), chain(7))...),
		fullTree(3, 4), fullTree(2, 5), fullTree(5, 3), and(a, or(atom(1, ints(r(7, 7))), not(atom(2, ints(r(0, 9)))))),
	}
	for attr := range api.Attrs {
		for _, s := range smallSets() {
			out = append(out, atom(attr, s), not(atom(attr, s)), and(or(), atom(attr, s)))
		}
	}
	return out
}

// equal is a second form of Same, for expressions of all sorts that have an end.
func equal(a, b api.Expr) bool {
	if a.Kind != b.Kind || a.Attr != b.Attr || !equalSets(a.Set, b.Set) || len(a.Sub) != len(b.Sub) {
		return false
	}
	for i := range a.Sub {
		if !equal(a.Sub[i], b.Sub[i]) {
			return false
		}
	}
	return true
}

func equalSets(a, b api.Set) bool {
	return a.Absent == b.Absent && a.Co == b.Co && slices.Equal(a.Ints, b.Ints) && slices.Equal(a.Strs, b.Strs)
}
