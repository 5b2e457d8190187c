package diagram_test

import (
	"math"
	"testing"

	"arbour/api"
	"arbour/diagram"
	"arbour/pieces"
)

// P10.1: of a filter that isn't right, 0, and no node.
func TestOfWrongFilters(t *testing.T) {
	for i, f := range pieces.WrongFilters() {
		s := diagram.New(f)
		if a := s.Of(f); a != 0 || s.Nodes() != 0 || s.Asked() != 1 {
			t.Errorf("%d: Of(%v): %d, %d nodes, asked %d", i, f, a, s.Nodes(), s.Asked())
		}
	}
}

// P10.1: of numbers that are no diagrams, 0; but it was asked.
func TestNumbersThatAreNoDiagrams(t *testing.T) {
	f, g := api.Filter{with(0, ints(r(1, 5)))}, pieces.Full(0)
	s := diagram.New(f, g)
	a, asked := 1, 0
	for n := range 3 {
		if n > 0 {
			a = s.Of([]api.Filter{f, g}[n-1])
			asked++
		}
		for _, b := range []int{-1, -2, s.Nodes() + 2, s.Nodes() + 3, 1000, math.MaxInt, math.MinInt} {
			nodes := s.Nodes()
			for _, x := range []int{0, 1, a, b} {
				if s.And(x, b) != 0 || s.And(b, x) != 0 || s.Or(x, b) != 0 || s.Or(b, x) != 0 || s.Not(b) != 0 {
					t.Errorf("%d nodes: And(%d, %d): %d, or another one", nodes, x, b, s.And(x, b))
					asked++
				}
				asked += 5
			}
			if s.Size(b) != 0 || s.Has(b, api.Event{}) || s.Has(b, api.Event{number(3), number(3), number(3), number(3)}) {
				t.Errorf("%d nodes: Size(%d): %d, or Has: true", nodes, b, s.Size(b))
			}
			if s.Nodes() != nodes || s.Asked() != asked {
				t.Errorf("%d nodes, not %d; asked %d, not %d", s.Nodes(), nodes, s.Asked(), asked)
			}
		}
	}
}

// P10.2: an event that mayn't be is in no diagram, whichever of its values mayn't.
func TestHasOfWrongEvents(t *testing.T) {
	var filters []api.Filter
	for attr := range api.Attrs {
		filters = append(filters, api.Filter{with(attr, others("q"))})
	}
	s := diagram.New(filters...)
	diagrams := []int{0, 1}
	for _, f := range filters {
		a := s.Of(f)
		diagrams = append(diagrams, a, s.Not(a))
	}
	for _, a := range diagrams {
		for _, v := range pieces.WrongValues() {
			for attr := range api.Attrs {
				e := api.Event{str("a"), str("a"), str("a"), str("a")}
				if e[attr] = v; s.Has(a, e) {
					t.Errorf("Has(%d, %v): true", a, e)
				}
			}
		}
	}
}

// P10.2
func TestNilSpace(t *testing.T) {
	var s *diagram.Space
	f := api.Filter{all()}
	for _, a := range []int{-1, 0, 1, 2, math.MaxInt, math.MinInt} {
		if s.Of(f) != 0 || s.And(a, 1) != 0 || s.Or(1, a) != 0 || s.Not(a) != 0 || s.Size(a) != 0 || s.Has(a, api.Event{}) {
			t.Errorf("%d of a nil space isn't 0, or false", a)
		}
	}
	if s.Nodes() != 0 || s.Asked() != 0 {
		t.Errorf("a nil space: %d nodes, asked %d", s.Nodes(), s.Asked())
	}
}

// P10.1: a space of no filters, and the zero one, have a grid too.
func TestSpaceOfNothing(t *testing.T) {
	for _, s := range []*diagram.Space{diagram.New(), diagram.New(nil), diagram.New(nil, api.Filter{}), new(diagram.Space)} {
		if s.Not(0) != 1 || s.Or(0, 1) != 1 || s.And(2, 2) != 0 || s.Not(2) != 0 || !s.Has(1, api.Event{}) || s.Has(2, api.Event{}) || s.Size(2) != 0 {
			t.Error("a space without nodes: wrong answers")
		}
		if s.Of(api.Filter{with(0, ints(r(1, 5)))}) != 0 || s.Of(api.Filter{all()}) != 1 || s.Nodes() != 0 {
			t.Error("a space of nothing: wrong diagrams")
		}
		a := s.Of(api.Filter{with(3, api.Set{Absent: true})})
		if a != 2 || !s.Has(a, api.Event{}) || s.Has(a, api.Event{3: number(1)}) || s.Has(a, api.Event{3: str("")}) || s.Nodes() != 1 || s.Asked() != 7 {
			t.Errorf("d is absent: the diagram %d, %d nodes, asked %d", a, s.Nodes(), s.Asked())
		}
	}
}
