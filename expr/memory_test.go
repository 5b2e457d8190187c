package expr_test

import (
	"slices"
	"testing"

	"arbour/api"
	"arbour/expr"
)

// roomySet lays a set whose lists have spare room, with something in it that must stay.
func roomySet(s api.Set) api.Set {
	s.Ints = append(slices.Clone(s.Ints), r(-99, -98), r(98, 99), r(5, 1))[:len(s.Ints)]
	s.Strs = append(slices.Clone(s.Strs), "spare", "room", "")[:len(s.Strs)]
	return s
}

// roomyList lays expressions in new memory, with spare room at every list of them.
func roomyList(list []api.Expr) []api.Expr {
	out := make([]api.Expr, 0, len(list)+2)
	for _, x := range list {
		out = append(out, roomy(x))
	}
	return append(out, atom(1, strs("spare")), not(and()))[:len(list)]
}

func roomy(x api.Expr) api.Expr {
	x.Set = roomySet(x.Set)
	x.Sub = roomyList(x.Sub)
	return x
}

// whole answers a copy of an expression; wholeRoom one whose lists go to the end of their room.
func whole(x api.Expr) api.Expr {
	x.Set.Ints, x.Set.Strs, x.Sub = slices.Clone(x.Set.Ints), slices.Clone(x.Set.Strs), slices.Clone(x.Sub)
	for i := range x.Sub {
		x.Sub[i] = whole(x.Sub[i])
	}
	return x
}

func wholeRoom(x api.Expr) api.Expr {
	x.Set.Ints, x.Set.Strs = slices.Clone(x.Set.Ints[:cap(x.Set.Ints)]), slices.Clone(x.Set.Strs[:cap(x.Set.Strs)])
	x.Sub = slices.Clone(x.Sub[:cap(x.Sub)])
	for i := range x.Sub {
		x.Sub[i] = wholeRoom(x.Sub[i])
	}
	return x
}

// spoil writes over all lists of an expression, their spare room too.
func spoil(x api.Expr) {
	numbers, texts, subs := x.Set.Ints[:cap(x.Set.Ints)], x.Set.Strs[:cap(x.Set.Strs)], x.Sub[:cap(x.Sub)]
	for i := range numbers {
		numbers[i] = r(-12345, 12345)
	}
	for i := range texts {
		texts[i] = "spoiled"
	}
	for i := range subs {
		spoil(subs[i])
		subs[i] = api.Expr{Kind: 77, Attr: 77}
	}
}

// toSpoil are expressions that may be and others, of an end that can be gone through.
func toSpoil() []api.Expr {
	out := append(rightExprs(), wrongParts()...)
	return append(out, and(atoms(40)...), or(atoms(300)...), not(and(atoms(41)...)), chain(9), chain(50), comb(9), comb(40), fullTree(3, 5))
}

// P5.1 to P5.3: what is handed in stays, whatever becomes of the answers.
func TestWhatIsHandedInStays(t *testing.T) {
	list := toSpoil()
	for i, left := range list {
		for _, right := range []api.Expr{left, list[(i+1)%len(list)], and(), atom(2, strs("x", "y"))} {
			args := roomyList([]api.Expr{left, right})
			want := wholeRoom(and(args...))
			a, b := args[0], args[1]
			expr.Right(a)
			expr.Size(a)
			expr.Same(a, b)
			expr.Eval(a, api.Event{number(1), str("x")})
			spoil(expr.Atom(1, a.Set))
			spoil(expr.And(args...))
			spoil(expr.Or(args...))
			spoil(expr.And(a, b, a))
			spoil(expr.Or(a))
			spoil(expr.Not(a))
			for _, part := range expr.Walk(a) {
				spoil(part)
			}
			if !equal(wholeRoom(and(args...)), want) {
				t.Fatalf("%v, %v: changed", left, right)
			}
		}
	}
}

// answers are expressions of all calls that answer one.
func answers(args []api.Expr) []api.Expr {
	a, b := args[0], args[1]
	return []api.Expr{expr.And(args...), expr.Or(args...), expr.And(a, b, a), expr.Or(a, a), expr.Not(a), expr.Not(b), expr.Atom(0, a.Set), expr.Atom(3, b.Set)}
}

// P5.1: an answer shares nothing with another one, and doesn't change with what was handed in.
func TestAnswersAreNewMemory(t *testing.T) {
	list := toSpoil()
	for i, left := range list {
		args := roomyList([]api.Expr{left, list[(i+1)%len(list)]})
		got := answers(args)
		var want []api.Expr
		for _, g := range got {
			want = append(want, wholeRoom(g))
		}
		for _, later := range answers(args) {
			spoil(later)
		}
		spoil(and(args...))
		for k := range got {
			if !equal(wholeRoom(got[k]), want[k]) {
				t.Fatalf("answer %d of %v shares memory", k, left)
			}
		}
	}
}

// P5.1: no two lists of one answer share memory, not even where those handed in do.
func TestListsOfAnAnswerAreApart(t *testing.T) {
	s := api.Set{Ints: []api.Range{r(1, 2), r(4, 5)}, Strs: []string{"a", "b"}}
	shared := []api.Expr{atom(0, s), not(atom(1, s))}
	x := and(or(shared...), and(shared...))
	for i, got := range []api.Expr{expr.And(x, x), expr.Or(x, atom(0, s), x), expr.And(shared...), expr.Or(atom(0, s), atom(0, s))} {
		for k := range got.Sub {
			y := whole(got)
			spoil(got.Sub[k])
			for other := range got.Sub {
				if other != k && !equal(got.Sub[other], y.Sub[other]) {
					t.Fatalf("answer %d: the parts %d and %d share memory", i, k, other)
				}
			}
		}
	}
	one := expr.Not(x)
	before := whole(one)
	spoil(one.Sub[0].Sub[0])
	if !equal(one.Sub[0].Sub[1], before.Sub[0].Sub[1]) {
		t.Error("parts below share memory")
	}
}

// P5.1: Sub is new memory however large what was handed in is, and though it has no end.
func TestSubOfLargePartsIsNew(t *testing.T) {
	for i, x := range tooLarge() {
		list := []api.Expr{x, x}
		for k, got := range []api.Expr{expr.And(list...), expr.Or(list...), expr.Not(x)} {
			got.Sub[0] = api.Expr{Kind: 77}
			if list[0].Kind != x.Kind || len(list[0].Sub) != len(x.Sub) {
				t.Fatalf("%d: answer %d shares its Sub", i, k)
			}
			list[0] = api.Expr{Kind: 78}
			if got.Sub[0].Kind != 77 {
				t.Fatalf("%d: answer %d changed with what was handed in", i, k)
			}
			list[0] = x
		}
	}
}

// P5.1 to P5.3: whatever they are given, they end, and none panics.
func TestNoPanicAtWrongExprs(t *testing.T) {
	list := wrongExprs()
	events := []api.Event{{}, {number(1), str("x")}, {{Kind: 7}}}
	for i, x := range list {
		for _, e := range events {
			expr.Eval(x, e)
		}
		expr.Right(x)
		expr.Size(x)
		expr.Not(x)
		expr.And(x, x)
		expr.Or(and(), x)
		expr.Atom(x.Attr, x.Set)
		expr.Walk(x)(func(int, api.Expr) bool { return true })
		for _, y := range []api.Expr{x, list[(i+1)%len(list)], list[len(list)-1-i], and(), {}} {
			expr.Same(x, y)
			expr.Same(y, x)
		}
	}
	ends := endless()
	for _, x := range ends {
		for _, y := range ends {
			expr.Same(x, y)
		}
	}
}
