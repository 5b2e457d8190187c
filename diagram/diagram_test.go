package diagram_test

import (
	"math"
	"testing"

	"arbour/api"
	"arbour/diagram"
	"arbour/dnf"
	"arbour/pieces"
)

// P10.1, P10.2
func TestExamples(t *testing.T) {
	f := api.Filter{with(0, ints(r(1, 5)))}
	g := api.Filter{f[0]}
	g[0][1] = strs("x")
	s := diagram.New(f, g)
	if got := s.Nodes(); got != 0 {
		t.Errorf("a new space: %d nodes", got)
	}
	a := s.Of(f)
	if a != 2 || s.Size(a) != 1 || s.Nodes() != 1 {
		t.Errorf("a is 1 to 5: the diagram %d, its size %d, %d nodes", a, s.Size(a), s.Nodes())
	}
	// Its nodes come in their order, each behind those below it.
	b := s.Of(g)
	if b != 4 || s.Size(b) != 2 || s.Nodes() != 3 {
		t.Errorf("and b is 'x': the diagram %d, its size %d, %d nodes", b, s.Size(b), s.Nodes())
	}
	not := s.Not(b)
	if not != 6 || s.Size(not) != 2 || s.Nodes() != 5 {
		t.Errorf("not of that: the diagram %d, its size %d, %d nodes", not, s.Size(not), s.Nodes())
	}
	if s.And(a, b) != b || s.Or(a, b) != a || s.Not(not) != b || s.And(b, not) != 0 || s.Or(not, b) != 1 || s.Nodes() != 5 {
		t.Errorf("of these: %d, %d, %d, %d, %d, %d nodes", s.And(a, b), s.Or(a, b), s.Not(not), s.And(b, not), s.Or(not, b), s.Nodes())
	}
}

// P10.1, P10.2: 0 has no event, and 1 has each one that may be.
func TestDiagramsThatAreNoNodes(t *testing.T) {
	s := diagram.New(api.Filter{with(2, strs("x"))})
	for _, c := range []struct{ got, want int }{
		{s.Of(nil), 0}, {s.Of(api.Filter{}), 0}, {s.Of(api.Filter{all()}), 1},
		{s.And(0, 0), 0}, {s.And(0, 1), 0}, {s.And(1, 0), 0}, {s.And(1, 1), 1},
		{s.Or(0, 0), 0}, {s.Or(0, 1), 1}, {s.Or(1, 0), 1}, {s.Or(1, 1), 1},
		{s.Not(0), 1}, {s.Not(1), 0}, {s.Size(0), 0}, {s.Size(1), 0}, {s.Nodes(), 0},
	} {
		if c.got != c.want {
			t.Errorf("%d, not %d", c.got, c.want)
		}
	}
	for row := range pieces.Rows {
		if e := pieces.Event(row); s.Has(0, e) || !s.Has(1, e) {
			t.Fatalf("Has(0, %v): %v, Has(1, ..): %v", e, s.Has(0, e), s.Has(1, e))
		}
	}
}

// P10.2: the same diagrams below are two nodes, if they are of two attributes.
func TestNodesOfTwoAttributes(t *testing.T) {
	five := ints(r(1, 5))
	var f []api.Filter
	for attr := range api.Attrs {
		f = append(f, api.Filter{with(attr, five)})
	}
	s := diagram.New(f...)
	for attr := range f {
		a := s.Of(f[attr])
		if a != 2+attr || s.Size(a) != 1 {
			t.Errorf("the attribute %d: the diagram %d, its size %d", attr, a, s.Size(a))
		}
		var e api.Event
		e[attr] = number(5)
		if !s.Has(a, e) {
			t.Errorf("the attribute %d: it hasn't %v", attr, e)
		}
		e[attr], e[(attr+1)%api.Attrs] = number(6), number(5)
		if s.Has(a, e) {
			t.Errorf("the attribute %d: it has %v", attr, e)
		}
	}
}

// P10.2: the edges of numbers and strings.
func TestHasAtEdges(t *testing.T) {
	values := []api.Value{
		{}, number(math.MinInt), number(math.MinInt + 1), number(-1), number(0), number(1), number(math.MaxInt - 1), number(math.MaxInt),
		str(""), str("a"), str("abcdefgh"), str("abcdefg"), str("\xff"), str("~0"),
	}
	for _, set := range []api.Set{
		{Absent: true}, ints(r(math.MinInt, math.MinInt)), ints(r(math.MaxInt, math.MaxInt)), ints(r(0, 0)), ints(r(math.MinInt, -1), r(1, math.MaxInt)),
		ints(r(math.MinInt, math.MaxInt)), strs(""), strs("abcdefgh"), strs("", "\xff"), others(), others(""), others("a", "abcdefgh"), {Absent: true, Co: true},
	} {
		for attr := range api.Attrs {
			f := api.Filter{with(attr, set)}
			s := diagram.New(f)
			a := s.Of(f)
			not := s.Not(a)
			if s.Size(a) != 1 || s.Size(not) != 1 {
				t.Errorf("%v: sizes %d, %d", set, s.Size(a), s.Size(not))
			}
			for _, v := range values {
				var e api.Event
				e[attr] = v
				if want := dnf.Has(f, e); s.Has(a, e) != want || s.Has(not, e) == want {
					t.Errorf("%v: Has(%v): %v, %v of its not", f, e, s.Has(a, e), s.Has(not, e))
				}
			}
		}
	}
}

// P10.1: a set that has some of a cell's values, and not all, cuts it.
func TestOfAFilterThatCutsACell(t *testing.T) {
	grid := api.Set{Absent: true, Ints: []api.Range{r(1, 5), r(9, 9)}, Strs: []string{"b", "x"}}
	for attr := range api.Attrs {
		g := api.Filter{with(attr, grid)}
		for _, c := range []struct {
			s    api.Set
			cuts bool
		}{
			{grid, false}, {ints(r(1, 5)), false}, {ints(r(1, 8)), false}, {ints(r(math.MinInt, 0), r(10, math.MaxInt)), false},
			{ints(r(6, 8)), false}, {ints(r(1, 9)), false}, {strs("b"), false}, {others("x"), false}, {others(), false},
			{others("b", "x"), false}, {api.Set{Absent: true}, false}, {ints(r(math.MinInt, math.MaxInt)), false},
			{ints(r(1, 4)), true}, {ints(r(2, 5)), true}, {ints(r(3, 3)), true}, {ints(r(1, 6)), true}, {ints(r(0, 5)), true},
			{ints(r(math.MinInt, math.MinInt)), true}, {ints(r(math.MaxInt, math.MaxInt)), true}, {ints(r(1, 5), r(7, 7)), true},
			{strs("a"), true}, {strs(""), true}, {strs("a", "b"), true}, {others("a"), true}, {others("a", "b", "x"), true}, {strs("~0"), true},
		} {
			s := diagram.New(g)
			if got := s.Of(api.Filter{with(attr, c.s)}); got == 0 != c.cuts || c.cuts && s.Nodes() != 0 {
				t.Errorf("the attribute %d, %v: the diagram %d, %d nodes", attr, c.s, got, s.Nodes())
			}
			if got := s.Of(api.Filter{with((attr+1)%api.Attrs, grid), with(attr, c.s)}); got != 0 || s.Asked() != 2 {
				t.Errorf("the attribute %d, and one that no filter of the grid names: the diagram %d, asked %d", attr, got, s.Asked())
			}
		}
	}
}

// P10.1: each box of a filter counts, and each set by itself: two that have a cell between them cut it all the same.
func TestOfAFilterWhoseBoxesCutACell(t *testing.T) {
	for attr := range api.Attrs {
		whole := api.Filter{with(attr, ints(r(1, 5)))}
		s := diagram.New(whole)
		if got := s.Of(api.Filter{with(attr, ints(r(1, 2))), with(attr, ints(r(3, 5)))}); got != 0 {
			t.Errorf("1 to 2, and 3 to 5: the diagram %d", got)
		}
		s = diagram.New(append(pieces.Apart(4), whole...))
		for at := range 4 {
			f := pieces.Apart(4)
			f[at] = with(attr, ints(r(3, 5)))
			if got := s.Of(f); got != 0 || s.Nodes() != 0 {
				t.Errorf("the box %d cuts: the diagram %d, %d nodes", at, got, s.Nodes())
			}
		}
		if got := s.Of(pieces.Apart(4)); got == 0 {
			t.Error("no set cuts a cell, and the diagram is 0")
		}
	}
}

// P10.1: the grid is that of all filters, whether right or not; of sets that aren't right it has nothing.
func TestGridOfWrongFilters(t *testing.T) {
	wrong := api.Filter{with(0, ints(r(2, 1))), with(0, ints(r(7, 8))), {}, with(1, strs("b", "a")), with(1, strs("q"))}
	s := diagram.New(nil, wrong, api.Filter{{}}, api.Filter{with(3, ints(r(1, 1)))})
	for _, c := range []struct {
		b    api.Box
		node bool
	}{
		{with(0, ints(r(7, 8))), true}, {with(1, strs("q")), true}, {with(3, ints(r(1, 1))), true}, {with(3, others()), true},
		{with(0, ints(r(1, 2))), false}, {with(0, ints(r(2, 2))), false}, {with(1, strs("a")), false}, {with(1, strs("b")), false},
		{with(2, ints(r(1, 1))), false}, {with(3, strs("q")), false},
	} {
		if a := s.Of(api.Filter{c.b}); a > 1 != c.node || s.And(a, a) != a {
			t.Errorf("Of(%v): %d", c.b, a)
		}
	}
}

// P10.3: the greatest size of a filter is reached.
func TestSizeOfFullFilter(t *testing.T) {
	f := pieces.Full(0)
	s := diagram.New(f)
	a := s.Of(f)
	if got := s.Size(a); got != api.Beta || s.Nodes() != 46 || a != 47 {
		t.Errorf("the diagram %d, its size %d, %d nodes", a, got, s.Nodes())
	}
	if got := s.Size(s.Not(a)); got != 46 || s.Nodes() != 92 {
		t.Errorf("its not: size %d, %d nodes", got, s.Nodes())
	}
	for n, want := range []int{0, 4, 10, 22} {
		if got := s.Size(s.Of(f[:n])); got != want {
			t.Errorf("%d of its boxes: size %d, not %d", n, got, want)
		}
	}
}

// P10.2: all ways that meet are gone on together, however many cells there are.
func TestWaysThatMeet(t *testing.T) {
	f, g := pieces.Full(0), pieces.Full(100)
	s := diagram.New(f, g)
	made := testing.AllocsPerRun(1, func() {
		a, b := s.Of(f), s.Of(g)
		if both := s.Or(a, b); s.Not(s.And(s.Not(a), s.Not(b))) != both || s.And(both, a) != a {
			t.Error("Or, And and Not aren't of one mind")
		}
	})
	// There are some 40 cells for each attribute, and 40 * 40 * 40 ways.
	if made > 30000 {
		t.Errorf("%v pieces of memory", made)
	}
}
