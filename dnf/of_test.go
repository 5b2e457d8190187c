package dnf_test

import (
	"slices"
	"testing"

	"arbour/api"
	"arbour/dnf"
	"arbour/expr"
)

// check holds Of against what the document says of an expression.
func check(t *testing.T, c told) (ok bool) {
	t.Helper()
	got, err := dnf.Of(c.x)
	switch {
	case !expr.Right(c.x):
		if err != api.ErrForm || len(got) != 0 {
			t.Fatalf("Of(%v): %v, %d, not ErrForm", c.x, got, err)
		}
	case c.tooMuch || len(c.boxes) > 4:
		if err != api.ErrBig || len(got) != 0 {
			t.Fatalf("Of(%v): %v, %d, not ErrBig", c.x, got, err)
		}
	default:
		want := boxesOf(c.boxes)
		if err != api.OK || !equalLists(got, want) || !dnf.Right(got) {
			t.Fatalf("Of(%v): %v, %d, not %v", c.x, got, err, want)
		}
		return true
	}
	return false
}

// checkNot holds Of against it of an expression and of its not.
func checkNot(t *testing.T, c told) {
	t.Helper()
	check(t, c)
	check(t, tellNot(c))
	check(t, tellNot(tellNot(c)))
}

// P6.1: the boxes, field by field, of which the document's examples tell the number.
func TestOfExamples(t *testing.T) {
	five := ints(r(5, 5))
	a, b, c, d := atom(0, ints(r(1, 5))), atom(1, strs("x")), atom(2, five), atom(3, api.Set{Absent: true})
	boxA, boxB, boxC, boxD := with(0, a.Set), with(1, b.Set), with(2, c.Set), with(3, d.Set)
	and2 := func(p, q int, s, u api.Set) api.Box {
		out := with(p, s)
		out[q] = u
		return out
	}
	no5 := api.Set{Absent: true, Ints: []api.Range{r(-1<<63, 4), r(6, 1<<63-1)}, Co: true}
	for i, c := range []struct {
		x    api.Expr
		want api.Filter
	}{
		{and(), api.Filter{all()}}, {or(), nil}, {not(and()), nil}, {not(or()), api.Filter{all()}},
		{atom(0, all()[0]), api.Filter{all()}}, {not(atom(0, all()[0])), nil}, {atom(2, api.Set{}), nil}, {not(atom(2, api.Set{})), api.Filter{all()}},
		{a, api.Filter{boxA}}, {not(atom(0, five)), api.Filter{with(0, no5)}}, {not(not(a)), api.Filter{boxA}},
		{not(and(atom(0, five), atom(1, five))), api.Filter{with(0, no5), with(1, no5)}}, {not(or(atom(0, five), atom(1, five))), api.Filter{and2(0, 1, no5, no5)}},
		{and(a, b), api.Filter{and2(0, 1, a.Set, b.Set)}}, {and(b, a), api.Filter{and2(0, 1, a.Set, b.Set)}}, {or(a, b), api.Filter{boxA, boxB}}, {or(b, a), api.Filter{boxB, boxA}},
		{or(a, and(a, b)), api.Filter{boxA}}, {or(and(a, b), a), api.Filter{boxA}}, {or(a, a), api.Filter{boxA}}, {and(a, a), api.Filter{boxA}}, {and(a, not(a)), nil},
		{or(and(a, b), b, a), api.Filter{boxB, boxA}}, {or(or(a, b), or(c, d)), api.Filter{boxA, boxB, boxC, boxD}}, {or(d, or(c, or(b, a))), api.Filter{boxD, boxC, boxB, boxA}},
		{and(or(a, b), or(c, d)), api.Filter{and2(0, 2, a.Set, c.Set), and2(0, 3, a.Set, d.Set), and2(1, 2, b.Set, c.Set), and2(1, 3, b.Set, d.Set)}},
		{and(or(d, c), or(b, a)), api.Filter{and2(1, 3, b.Set, d.Set), and2(0, 3, a.Set, d.Set), and2(1, 2, b.Set, c.Set), and2(0, 2, a.Set, c.Set)}},
		{and(or(a, b), or(a, c)), api.Filter{boxA, and2(1, 2, b.Set, c.Set)}}, {and(or(b, a), or(a, c)), api.Filter{and2(1, 2, b.Set, c.Set), boxA}},
		{and(a, or()), nil}, {or(a, and()), api.Filter{all()}}, {and(a, and()), api.Filter{boxA}}, {or(a, or()), api.Filter{boxA}},
	} {
		got, err := dnf.Of(c.x)
		if err != api.OK || !equalLists(got, c.want) {
			t.Errorf("%d: Of(%v): %v, %d", i, c.x, got, err)
		}
	}
}

// P6.1: each atom, and its not.
func TestOfAtoms(t *testing.T) {
	for attr := range api.Attrs {
		for mask := range allPieces + 1 {
			checkNot(t, tellAtom(attr, mask))
		}
	}
}

func firstAtoms() []told {
	return []told{
		tellAtom(0, middle), tellAtom(0, middle|high|absent), tellAtom(1, x), tellAtom(1, allPieces&^x),
		tellAtom(2, low|notX), tellAtom(3, allPieces), tellAtom(3, 0),
	}
}

// nextStep lays of a list's expressions others that are one step deeper.
func nextStep(list []told) []told {
	out := []told{tellAnd(), tellOr()}
	for _, a := range list {
		out = append(out, tellNot(a), tellAnd(a), tellOr(a))
		for _, b := range list {
			out = append(out, tellAnd(a, b), tellOr(a, b))
		}
	}
	for i := range list {
		three := []told{list[i], list[(i+3)%len(list)], list[(i+5)%len(list)]}
		out = append(out, tellAnd(three...), tellOr(three...))
	}
	return out
}

func every(step int, list []told) []told {
	var out []told
	for i := 0; i < len(list); i += step {
		out = append(out, list[i])
	}
	return out
}

// P6.1: all shapes of two steps, and many of three and four.
func TestOfShapes(t *testing.T) {
	first := firstAtoms()
	second := nextStep(first)
	third := nextStep(every(3, slices.Concat(first, second)))
	fourth := nextStep(every(97, third))
	for _, list := range [][]told{first, second, third, fourth} {
		for _, c := range list {
			checkNot(t, c)
		}
	}
}

// grow rolls an expression of at most that depth.
func grow(d *dice, depth, wide int) told {
	kind := d.roll(7)
	if depth <= 1 || kind == 0 {
		return tellAtom(d.roll(api.Attrs), d.roll(allPieces+1))
	}
	if kind == 1 {
		return tellNot(grow(d, depth-1, wide))
	}
	var list []told
	for range d.roll(wide + 1) {
		list = append(list, grow(d, depth-1, wide))
	}
	if kind%2 == 0 {
		return tellAnd(list...)
	}
	return tellOr(list...)
}

// P6.1: expressions of all sizes; filters of each length, and those that are too much, and too large, must all come up.
func TestOfManyExprs(t *testing.T) {
	d := dice(17)
	var filters [api.MaxBoxes + 1]int
	big, form := 0, 0
	for n := range 12000 {
		c := grow(&d, 3+n%2, 3+n%4)
		switch {
		case check(t, c):
			filters[len(c.boxes)]++
		case expr.Right(c.x):
			big++
		default:
			form++
		}
	}
	if slices.Min(filters[:]) < 100 || big < 100 || form < 100 {
		t.Fatalf("%v filters, %d too much, %d too large: too few of a kind", filters, big, form)
	}
}

// P6.2: a filter has just the events of which the expression is so.
func TestOfHasWhatEvalHas(t *testing.T) {
	d := dice(62)
	filters := 0
	for n := range 1500 {
		c := grow(&d, 2+n%5, 2+n%3)
		f, err := dnf.Of(c.x)
		if err != api.OK {
			continue
		}
		filters++
		manyEvents(func(e api.Event, _ masks) {
			// A part of all rows, another one for each expression, keeps it within a short time.
			if d.roll(8) == 0 && dnf.Has(f, e) != expr.Eval(c.x, e) {
				t.Fatalf("Has(Of(%v), %v): not %v", c.x, e, expr.Eval(c.x, e))
			}
		})
		for _, v := range wrongValues() {
			if e := (api.Event{{}, v}); dnf.Has(f, e) || expr.Eval(c.x, e) {
				t.Fatalf("Has(Of(%v), %v): true", c.x, e)
			}
		}
	}
	if filters < 300 {
		t.Fatalf("%d filters alone", filters)
	}
}

// P6.2: the document's example, and sets with more to them than the pieces have.
func TestOfHasEdges(t *testing.T) {
	odd := ints(r(1, 1), r(3, 3), r(5, 5), r(7, 7), r(9, 9))
	list := []api.Expr{
		not(atom(0, ints(r(5, 5)))), not(atom(0, odd)), and(atom(0, odd), not(atom(0, ints(r(3, 6))))), or(atom(0, odd), atom(1, others("a", "b", "c"))),
		not(or(atom(1, strs("a", "b", "c")), atom(1, strs("", "abcdefgh")))), not(and(not(atom(0, odd)), atom(1, others("a", "b", "c", "d", "e", "f")))),
		and(not(atom(2, odd)), not(atom(3, strs("a"))), or(atom(0, odd), atom(1, strs("a")))),
	}
	values := []api.Value{{}, str(""), str("a"), str("c"), str("f"), str("abcdefgh"), number(-1 << 63), number(1<<63 - 1)}
	for n := range 11 {
		values = append(values, number(n))
	}
	for _, y := range list {
		f, err := dnf.Of(y)
		if err != api.OK {
			t.Fatalf("Of(%v): %d", y, err)
		}
		for _, a := range values {
			for _, b := range values {
				for _, e := range []api.Event{{a, b}, {a, b, a, b}, {b, a, number(2), b}} {
					if dnf.Has(f, e) != expr.Eval(y, e) {
						t.Fatalf("Has(Of(%v), %v): not %v", y, e, expr.Eval(y, e))
					}
				}
			}
		}
	}
}

// P6.1
func TestOfWrongExprs(t *testing.T) {
	for i, y := range wrongExprs() {
		if f, err := dnf.Of(y); err != api.ErrForm || f != nil {
			t.Errorf("wrong expression %d: %v, %d", i, f, err)
		}
	}
}
