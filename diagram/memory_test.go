package diagram_test

import (
	"sync"
	"testing"

	"arbour/api"
	"arbour/diagram"
	"arbour/pieces"
)

// P10.1: filters stay as they are, and aren't kept: neither by New nor by Of.
func TestFiltersStayAndAreNotKept(t *testing.T) {
	d := dice(3)
	for range 60 {
		f, g := pieces.Filter(d.Some(4)), pieces.Filter(d.Some(4))
		list := []api.Filter{pieces.Roomy(f), pieces.Roomy(g), nil}[:2]
		wholeF, wholeG := pieces.Whole(list[0]), pieces.Whole(list[1])
		s := diagram.New(list...)
		a, b := s.Of(list[0]), s.Of(list[1])
		if !pieces.Stayed(list[0], wholeF) || !pieces.Stayed(list[1], wholeG) || list[:3][2] != nil {
			t.Fatalf("%v, %v: changed", f, g)
		}
		pieces.Spoil(list[0])
		pieces.Spoil(list[1])
		list[0], list[1] = nil, nil
		again := diagram.New(f, g)
		if s.Of(f) != a || s.Of(g) != b || again.Of(f) != a || again.Of(g) != b {
			t.Fatalf("%v, %v: other diagrams, when the lists that were handed in had changed", f, g)
		}
		for row := range pieces.Rows {
			if e := pieces.Event(row); s.Has(a, e) != again.Has(a, e) || s.Has(b, e) != again.Has(b, e) {
				t.Fatalf("%v, %v: other events, when the lists that were handed in had changed", f, g)
			}
		}
	}
}

// P10.1: two spaces know nothing of each other.
func TestSpacesAreApart(t *testing.T) {
	f := pieces.Full(0)
	s, other := diagram.New(f), diagram.New(f)
	s.Of(f)
	if other.Nodes() != 0 || other.Asked() != 0 || other.Size(47) != 0 || other.Not(47) != 0 {
		t.Errorf("%d nodes, asked %d, size %d", other.Nodes(), other.Asked(), other.Size(47))
	}
	if a := other.Of(f); a != 47 || other.Asked() != 2 || s.Asked() != 1 {
		t.Errorf("the diagram %d, asked %d and %d", a, other.Asked(), s.Asked())
	}
}

// P10.2: Of, And, Or and Not are counted, whatever they answer, and nothing else is.
func TestAsked(t *testing.T) {
	f := pieces.Full(0)
	s := diagram.New(f)
	for i, ask := range []func(){
		func() { s.Of(f) }, func() { s.Of(f) }, func() { s.Of(nil) }, func() { s.Of(pieces.Apart(5)) }, func() { s.Of(pieces.Apart(1)) },
		func() { s.And(2, 47) }, func() { s.Or(2, 47) }, func() { s.Not(47) }, func() { s.Not(47) },
		func() { s.And(0, 1) }, func() { s.Or(1, 0) }, func() { s.Not(0) }, func() { s.And(-1, 0) }, func() { s.Or(0, 999) }, func() { s.Not(999) },
	} {
		ask()
		s.Size(47)
		s.Has(47, api.Event{})
		s.Nodes()
		if got := s.Asked(); got != i+1 || s.Asked() != got {
			t.Errorf("asked %d times, not %d", got, i+1)
		}
	}
}

// P10.2: others may look how often one asks, while one does.
func TestAskedWhileOthersLookOn(t *testing.T) {
	const times = 50
	f := pieces.Full(0)
	s := diagram.New(f)
	var others sync.WaitGroup
	for range 4 {
		others.Go(func() {
			last := 0
			for range 1000 {
				now := s.Asked()
				if now < last || now > 4*times {
					t.Errorf("asked %d times, and %d ahead of that", now, last)
				}
				last = now
			}
		})
	}
	for range times {
		a := s.Of(f)
		s.Not(s.And(a, s.Or(0, a)))
	}
	others.Wait()
	if got := s.Asked(); got != 4*times {
		t.Errorf("asked %d times", got)
	}
}
