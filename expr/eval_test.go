package expr_test

import (
	"math"
	"slices"
	"testing"

	"arbour/api"
	"arbour/expr"
	"arbour/set"
)

// someEvents: events of which each attribute has a value of each kind, beside others of all kinds.
func someEvents() []api.Event {
	values := []api.Value{{}, number(1), str("x")}
	var out []api.Event
	for _, a := range append(values, number(0), number(5), number(6), number(math.MinInt), number(math.MaxInt)) {
		for _, b := range append(values, str(""), str("abcdefgh")) {
			for _, c := range values {
				for _, d := range values[:2] {
					out = append(out, api.Event{a, b, c, d})
				}
			}
		}
	}
	return out
}

// told is an expression and, for each of some events, whether it is so.
type told struct {
	x  api.Expr
	so []bool
}

func tellAtom(events []api.Event, attr int, s api.Set, has func(v api.Value) bool) told {
	so := make([]bool, len(events))
	for i, e := range events {
		so[i] = has(e[attr])
	}
	return told{atom(attr, s), so}
}

func tellAll(n int, list ...told) told {
	so := slices.Repeat([]bool{true}, n)
	x := and()
	for _, part := range list {
		x.Sub = append(x.Sub, part.x)
		for i := range so {
			so[i] = so[i] && part.so[i]
		}
	}
	return told{x, so}
}

func tellOne(n int, list ...told) told {
	so := make([]bool, n)
	x := or()
	for _, part := range list {
		x.Sub = append(x.Sub, part.x)
		for i := range so {
			so[i] = so[i] || part.so[i]
		}
	}
	return told{x, so}
}

func tellNot(part told) told {
	so := make([]bool, len(part.so))
	for i := range so {
		so[i] = !part.so[i]
	}
	return told{not(part.x), so}
}

// firstAtoms: atoms of all four attributes, each told by a rule of its own.
func firstAtoms(events []api.Event) []told {
	return []told{
		tellAtom(events, 0, ints(r(1, 5)), func(v api.Value) bool { return v.Kind == api.Int && v.N >= 1 && v.N <= 5 }),
		tellAtom(events, 0, ints(r(math.MinInt, 0), r(6, math.MaxInt)), func(v api.Value) bool { return v.Kind == api.Int && (v.N < 1 || v.N > 5) }),
		tellAtom(events, 1, strs("", "x"), func(v api.Value) bool { return v.Kind == api.Str && len(v.S) < 2 }),
		tellAtom(events, 1, api.Set{Co: true, Strs: []string{"x"}}, func(v api.Value) bool { return v.Kind == api.Str && v.S != "x" }),
		tellAtom(events, 2, api.Set{Absent: true}, func(v api.Value) bool { return v.Kind == api.Absent }),
		tellAtom(events, 3, api.Set{Absent: true, Ints: []api.Range{r(1, 1)}, Co: true}, func(v api.Value) bool { return true }),
		tellAtom(events, 3, ints(r(1, 1)), func(v api.Value) bool { return v.Kind == api.Int }),
		tellAtom(events, 2, api.Set{}, func(v api.Value) bool { return false }),
	}
}

// nextStep lays of a list's expressions others that are one step deeper.
func nextStep(n int, list []told) []told {
	out := []told{tellAll(n), tellOne(n)}
	for i, a := range list {
		out = append(out, tellNot(a), tellAll(n, a), tellOne(n, a))
		for _, b := range list[i:] {
			out = append(out, tellAll(n, a, b), tellOne(n, b, a))
		}
	}
	for i := range list {
		three := []told{list[i], list[(i+3)%len(list)], list[(i+5)%len(list)]}
		out = append(out, tellAll(n, three...), tellOne(n, three...))
	}
	return out
}

// every answers each step-th of a list.
func every(step int, list []told) []told {
	var out []told
	for i := 0; i < len(list); i += step {
		out = append(out, list[i])
	}
	return out
}

// P5.2: expressions of all shapes, of all events.
func TestEval(t *testing.T) {
	events := someEvents()
	n := len(events)
	first := firstAtoms(events)
	second := nextStep(n, first)
	third := nextStep(n, every(3, slices.Concat(first, second)))
	fourth := nextStep(n, every(29, third))
	for _, list := range [][]told{first, second, third, fourth} {
		for _, c := range list {
			if !expr.Right(c.x) {
				continue
			}
			for i, e := range events {
				if expr.Eval(c.x, e) != c.so[i] {
					t.Fatalf("Eval(%v, %v): not %v", c.x, e, c.so[i])
				}
			}
		}
	}
}

// P5.2: at the edges of what may be.
func TestEvalEdges(t *testing.T) {
	five := api.Event{number(5)}
	a, never := atom(0, ints(r(5, 5))), atom(0, ints(r(6, 6)))
	deep := func(x api.Expr, n int) api.Expr {
		for range n {
			x = not(x)
		}
		return x
	}
	for i, c := range []struct {
		x    api.Expr
		e    api.Event
		want bool
	}{
		{and(), api.Event{}, true}, {or(), api.Event{}, false}, {not(and()), five, false}, {not(or()), five, true},
		{a, five, true}, {a, api.Event{}, false}, {a, api.Event{{}, number(5)}, false}, {not(a), api.Event{}, true}, {not(a), five, false}, {not(a), api.Event{str("5")}, true},
		{and(a), five, true}, {or(a), five, true}, {and(a, never), five, false}, {and(never, a), five, false}, {or(a, never), five, true}, {or(never, a), five, true},
		{and(a, a, never), five, false}, {or(never, never, a), five, true}, {and(a, a, a), five, true}, {or(never, never, never), five, false},
		{and(slices.Repeat([]api.Expr{a}, 39)...), five, true}, {and(slices.Repeat([]api.Expr{a}, 40)...), five, false},
		{or(append(slices.Repeat([]api.Expr{never}, 38), a)...), five, true}, {or(append(slices.Repeat([]api.Expr{never}, 39), a)...), five, false},
		{and(append(slices.Repeat([]api.Expr{a}, 38), never)...), five, false},
		{deep(a, 6), five, true}, {deep(a, 7), five, false}, {deep(never, 7), five, true}, {deep(a, 8), five, false}, {deep(never, 9), five, false},
		{atom(3, api.Set{Absent: true}), api.Event{}, true}, {atom(3, api.Set{Absent: true}), api.Event{{}, {}, {}, number(0)}, false},
		{atom(3, ints(r(0, 0))), api.Event{{}, {}, {}, number(0)}, true}, {atom(3, strs("")), api.Event{{}, {}, {}, str("")}, true}, {atom(3, strs("")), api.Event{}, false},
		{atom(0, set.All()), api.Event{}, true}, {atom(0, set.Not(set.All())), five, false}, {atom(0, api.Set{}), api.Event{}, false},
	} {
		if expr.Eval(c.x, c.e) != c.want {
			t.Errorf("%d: Eval(%v, %v): not %v", i, c.x, c.e, c.want)
		}
	}
}

func wrongValues() []api.Value {
	return []api.Value{
		{N: 1}, {S: "x"}, {Kind: api.Int, N: 1, S: "x"}, {Kind: api.Str, N: 1, S: "x"},
		str("123456789"), {Kind: 3}, {Kind: 7}, {Kind: -1}, {Kind: math.MaxInt}, {Kind: math.MinInt},
	}
}

// P5.2: of an event that mayn't be nothing is so, though the wrong value isn't asked for.
func TestEvalOfWrongEvents(t *testing.T) {
	list := append(rightExprs(), not(atom(0, set.All())), not(or()), atom(1, set.All()))
	for _, v := range wrongValues() {
		for attr := range api.Attrs {
			e := api.Event{number(1), str("x"), {}, number(0)}
			e[attr] = v
			for i, x := range list {
				if expr.Eval(x, e) {
					t.Errorf("expression %d is so of %v", i, e)
				}
			}
		}
		for i, x := range list {
			if e := (api.Event{v, v, v, v}); expr.Eval(x, e) {
				t.Errorf("expression %d is so of %v", i, e)
			}
		}
	}
}

// P5.2: nor is an expression that mayn't be, though the wrong part isn't needed.
func TestEvalOfWrongExprs(t *testing.T) {
	events := []api.Event{{}, {number(1), str("x"), {}, number(0)}, {number(5), number(5), number(5), number(5)}, {str("a"), str("b"), str(""), str("zz")}}
	for i, x := range wrongExprs() {
		for _, e := range events {
			if expr.Eval(x, e) {
				t.Errorf("wrong expression %d is so of %v", i, e)
			}
		}
	}
}
