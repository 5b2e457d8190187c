package expr_test

import (
	"math"
	"slices"
	"testing"

	"arbour/api"
	"arbour/expr"
)

// P5.1
func TestAtom(t *testing.T) {
	for _, attr := range append(wrongAttrs(), 0, 1, 2, 3) {
		for _, s := range slices.Concat(smallSets(), greatSets(), wrongSets()) {
			if x := expr.Atom(attr, s); !equal(x, atom(attr, s)) {
				t.Errorf("Atom(%d, %v): %v", attr, s, x)
			}
		}
	}
}

// P5.1
func TestAndOrNot(t *testing.T) {
	a, b := atom(0, ints(r(1, 5))), atom(1, strs("x"))
	lists := [][]api.Expr{nil, {}, {a}, {a, b}, {b, a}, {a, a}, {a, b, and(a), not(b)}, {{}}, {{Kind: 7, Attr: 9, Set: a.Set, Sub: []api.Expr{b}}, a}, atoms(39), atoms(40), atoms(1000)}
	for i, list := range lists {
		if x := expr.And(list...); !equal(x, and(list...)) {
			t.Errorf("%d: And: %v", i, x)
		}
		if x := expr.Or(list...); !equal(x, or(list...)) {
			t.Errorf("%d: Or: %v", i, x)
		}
		for _, y := range list {
			if x := expr.Not(y); !equal(x, not(y)) {
				t.Errorf("%d: Not(%v): %v", i, y, x)
			}
		}
	}
	if !equal(expr.And(), and()) || !equal(expr.Or(), or()) || !equal(expr.Or(a), or(a)) || !equal(expr.And(a, b, a), and(a, b, a)) {
		t.Error("arguments that are told one by one")
	}
}

// P5.1: however large the parts are, the answer is the expression of them.
func TestOfLargeParts(t *testing.T) {
	for _, depth := range []int{9, 100, 1023, 1024, 1025, 5000} {
		x := chain(depth)
		if !equal(expr.Not(x), not(x)) || !equal(expr.And(x, and()), and(x, and())) || !equal(expr.Or(or(), x), or(or(), x)) {
			t.Errorf("of a depth of %d", depth)
		}
	}
	for _, n := range []int{41, 1022, 1023, 1024, 1025, 5000} {
		x := and(atoms(n)...)
		if !equal(expr.Not(x), not(x)) || !equal(expr.And(and(), x, or()), and(and(), x, or())) {
			t.Errorf("of %d atoms", n)
		}
	}
}

// P5.1: they may be laid step by step, without end.
func TestLaidStepByStep(t *testing.T) {
	deep, twice, long := expr.And(), expr.Or(), expr.And()
	for i := range 30000 {
		deep = expr.Not(deep)
		twice = expr.And(twice, twice)
		long = expr.Or(long, expr.Atom(0, ints(r(i, i))))
	}
	for i, x := range []api.Expr{deep, twice, long} {
		if parts, depth := expr.Size(x); parts != 0 || depth != 0 || expr.Right(x) || expr.Eval(x, api.Event{}) {
			t.Errorf("%d: %d, %d", i, parts, depth)
		}
	}
}

// P5.1
func TestRight(t *testing.T) {
	for i, x := range rightExprs() {
		if !expr.Right(x) {
			t.Errorf("%d: %v may be", i, x)
		}
	}
	for i, x := range wrongExprs() {
		if expr.Right(x) {
			t.Errorf("wrong expression %d may be", i)
		}
	}
}

// P5.1: each edge, with its neighbour on the other side.
func TestRightEdges(t *testing.T) {
	a := atom(0, ints(r(1, 5)))
	for i, c := range []struct {
		x    api.Expr
		want bool
	}{
		{atom(-1, a.Set), false}, {atom(0, a.Set), true}, {atom(3, a.Set), true}, {atom(4, a.Set), false},
		{api.Expr{Kind: 0}, false}, {api.Expr{Kind: 1}, true}, {api.Expr{Kind: 2}, true}, {api.Expr{Kind: 3}, true},
		{api.Expr{Kind: 4}, false}, {api.Expr{Kind: 4, Sub: []api.Expr{a}}, true}, {api.Expr{Kind: 4, Sub: []api.Expr{a, a}}, false},
		{api.Expr{Kind: 5}, false}, {api.Expr{Kind: 5, Sub: []api.Expr{a}}, false}, {api.Expr{Kind: -1}, false},
		{and(atoms(39)...), true}, {and(atoms(40)...), false}, {chain(8), true}, {chain(9), false},
		{not(and(atoms(38)...)), true}, {not(and(atoms(39)...)), false},
		{and(append(atoms(32), chain(7))...), true}, {and(append(atoms(33), chain(7))...), false}, {and(append(atoms(31), chain(8))...), false},
		{atom(0, ints(r(1, 1))), true}, {atom(0, ints(r(1, 0))), false}, {atom(0, ints(r(1, 2), r(4, 4))), true}, {atom(0, ints(r(1, 2), r(3, 4))), false},
		{atom(1, strs("12345678")), true}, {atom(1, strs("123456789")), false}, {atom(1, strs("a", "b")), true}, {atom(1, strs("b", "a")), false},
		{atom(2, ints(r(0, 0), r(2, 2), r(4, 4), r(6, 6), r(8, 8), r(10, 10))), true}, {atom(2, ints(r(0, 0), r(2, 2), r(4, 4), r(6, 6), r(8, 8), r(10, 10), r(12, 12))), false},
		{atom(2, strs("", "a", "b", "c", "d", "e")), true}, {atom(2, strs("", "a", "b", "c", "d", "e", "f")), false},
		{api.Expr{Kind: api.EAtom, Sub: []api.Expr{}}, true}, {api.Expr{Kind: api.EAtom, Sub: []api.Expr{and()}}, false},
		{api.Expr{Kind: api.EAnd, Attr: 1}, false}, {api.Expr{Kind: api.EOr, Attr: -1}, false}, {api.Expr{Kind: api.ENot, Attr: 3, Sub: []api.Expr{a}}, false},
		{api.Expr{Kind: api.EAnd, Set: api.Set{Absent: true}}, false}, {api.Expr{Kind: api.EOr, Set: api.Set{Co: true}}, false},
		{api.Expr{Kind: api.ENot, Set: api.Set{Strs: []string{""}}, Sub: []api.Expr{a}}, false}, {api.Expr{Kind: api.EAnd, Set: ints(r(0, 0))}, false},
		{api.Expr{Kind: api.EAnd, Set: api.Set{Ints: []api.Range{}, Strs: []string{}}}, true},
	} {
		if expr.Right(c.x) != c.want {
			t.Errorf("%d: Right(%v): not %v", i, c.x, c.want)
		}
	}
}

// P5.1
func TestSizeEdges(t *testing.T) {
	a := atom(0, ints(r(1, 5)))
	for i, c := range []struct {
		x            api.Expr
		parts, depth int
	}{
		{and(), 1, 1}, {or(), 1, 1}, {a, 1, 1}, {api.Expr{}, 1, 1}, {not(), 1, 1}, {not(a), 2, 2}, {not(a, a), 3, 2}, {and(a, a, a), 4, 2},
		{and(a, or(a, not(a))), 6, 4}, {and(or(a, not(a)), a), 6, 4}, {and(not(a), or(), not(a)), 6, 3},
		{and(atoms(38)...), 39, 2}, {and(atoms(39)...), 40, 2}, {and(atoms(40)...), 0, 0}, {or(atoms(41)...), 0, 0},
		{not(and(atoms(38)...)), 40, 3}, {not(and(atoms(39)...)), 0, 0},
		{chain(7), 7, 7}, {chain(8), 8, 8}, {chain(9), 0, 0}, {comb(8), 15, 8}, {comb(9), 0, 0},
		{and(append(atoms(32), chain(7))...), 40, 8}, {and(append([]api.Expr{chain(7)}, atoms(32)...)...), 40, 8},
		{and(append(atoms(33), chain(7))...), 0, 0}, {and(append([]api.Expr{chain(7)}, atoms(33)...)...), 0, 0}, {and(a, chain(8)), 0, 0}, {and(chain(8), a), 0, 0},
		{fullTree(3, 4), 40, 4}, {fullTree(2, 5), 31, 5}, {fullTree(2, 6), 0, 0}, {fullTree(39, 2), 40, 2}, {fullTree(40, 2), 0, 0},
		// Parts are counted whatever their kinds and their fields are.
		{api.Expr{Kind: 7, Attr: -3, Sub: []api.Expr{{}, {Kind: -1, Sub: []api.Expr{{}}}}}, 4, 3},
		{api.Expr{Kind: api.EAtom, Attr: math.MaxInt, Set: strs("b", "a"), Sub: []api.Expr{a, a}}, 3, 2},
		{and(make([]api.Expr, 39)...), 40, 2}, {and(make([]api.Expr, 40)...), 0, 0},
	} {
		if parts, depth := expr.Size(c.x); parts != c.parts || depth != c.depth {
			t.Errorf("%d: Size(%v): %d, %d, not %d, %d", i, c.x, parts, depth, c.parts, c.depth)
		}
	}
	for i, x := range tooLarge() {
		if parts, depth := expr.Size(x); parts != 0 || depth != 0 {
			t.Errorf("too large %d: %d, %d", i, parts, depth)
		}
	}
}

// counted is a second form of Size, for expressions that aren't too large.
func counted(x api.Expr) (parts, depth int) {
	parts, depth = 1, 1
	for _, sub := range x.Sub {
		p, d := counted(sub)
		parts, depth = parts+p, max(depth, d+1)
	}
	return parts, depth
}

// P5.1
func TestSize(t *testing.T) {
	list := rightExprs()
	for _, x := range wrongParts() {
		list = append(list, within(x)...)
	}
	for i, x := range list {
		parts, depth := expr.Size(x)
		if wantParts, wantDepth := counted(x); parts != wantParts || depth != wantDepth {
			t.Errorf("%d: Size(%v): %d, %d, not %d, %d", i, x, parts, depth, wantParts, wantDepth)
		}
	}
}

// P5.1
func TestSame(t *testing.T) {
	list := rightExprs()
	for i, x := range list {
		y := roomy(x)
		if !expr.Same(x, y) || !expr.Same(y, x) {
			t.Errorf("%d: %v isn't the same as its copy", i, x)
		}
		for j, z := range list {
			if expr.Same(x, z) != equal(x, z) {
				t.Errorf("%d, %d: Same(%v, %v): not %v", i, j, x, z, equal(x, z))
			}
		}
	}
}

// changed answers expressions that differ from x in one part alone, each part in turn.
func changed(x api.Expr) []api.Expr {
	var out []api.Expr
	switch x.Kind {
	case api.EAtom:
		out = append(out, atom((x.Attr+1)%api.Attrs, x.Set), not(x), and())
		for _, s := range smallSets() {
			if !equalSets(s, x.Set) {
				out = append(out, atom(x.Attr, s))
			}
		}
	case api.ENot:
		out = append(out, and(x.Sub...), or(x.Sub...))
	default:
		out = append(out, api.Expr{Kind: api.EAnd + api.EOr - x.Kind, Sub: x.Sub})
		out = append(out, api.Expr{Kind: x.Kind, Sub: append(slices.Clone(x.Sub), and())})
		if n := len(x.Sub); n > 0 {
			out = append(out, api.Expr{Kind: x.Kind, Sub: x.Sub[:n-1]}, api.Expr{Kind: x.Kind, Sub: append(slices.Clone(x.Sub[:n-1]), not(x.Sub[n-1]))})
		}
	}
	for i, sub := range x.Sub {
		for _, other := range changed(sub) {
			y := api.Expr{Kind: x.Kind, Sub: slices.Clone(x.Sub)}
			y.Sub[i] = other
			out = append(out, y)
		}
	}
	return out
}

// P5.1: what differs in one part alone isn't the same.
func TestSameTellsEachPart(t *testing.T) {
	for i, x := range rightExprs() {
		for _, y := range changed(x) {
			if expr.Right(y) && (expr.Same(x, y) || expr.Same(y, x)) {
				t.Errorf("%d: %v is told the same as %v", i, y, x)
			}
		}
	}
}

// P5.1: the order of Sub counts, though the sense is the same.
func TestSameOrder(t *testing.T) {
	a, b := atom(0, ints(r(1, 5))), atom(1, strs("x"))
	for i, c := range [][2]api.Expr{{and(a, b), and(b, a)}, {or(a, b), or(b, a)}, {and(a), a}, {and(a), or(a)}, {not(not(a)), a}, {and(), not(or())}, {and(a, a), and(a)}, {and(and(a), b), and(a, and(b))}} {
		if expr.Same(c[0], c[1]) || expr.Same(c[1], c[0]) {
			t.Errorf("%d: %v is told the same as %v", i, c[0], c[1])
		}
	}
}
