package diagram_test

import (
	"slices"
	"sync"
	"testing"

	"arbour/api"
	"arbour/diagram"
)

// roomy lays a filter in new memory, whose lists have spare room, with something in it that must stay.
func roomy(f api.Filter) api.Filter {
	var out api.Filter
	for _, b := range f {
		for attr, s := range b {
			b[attr].Ints = append(slices.Clone(s.Ints), r(-99, -98), r(98, 99), r(5, 1))[:len(s.Ints)]
			b[attr].Strs = append(slices.Clone(s.Strs), "spare", "room", "")[:len(s.Strs)]
		}
		out = append(out, b)
	}
	return append(out, with(1, strs("spare")), api.Box{})[:len(f)]
}

// whole answers all sets of a filter, spare ones too, with their lists to the end of their room.
func whole(f api.Filter) []api.Set {
	var out []api.Set
	for _, b := range f[:cap(f)] {
		for _, s := range b {
			s.Ints, s.Strs = slices.Clone(s.Ints[:cap(s.Ints)]), slices.Clone(s.Strs[:cap(s.Strs)])
			out = append(out, s)
		}
	}
	return out
}

func equal(a, b api.Set) bool {
	return a.Absent == b.Absent && a.Co == b.Co && slices.Equal(a.Ints, b.Ints) && slices.Equal(a.Strs, b.Strs)
}

// spoil writes over all of a filter, its spare room too.
func spoil(f api.Filter) {
	f = f[:cap(f)]
	for i, b := range f {
		for _, s := range b {
			numbers, texts := s.Ints[:cap(s.Ints)], s.Strs[:cap(s.Strs)]
			for k := range numbers {
				numbers[k] = r(-12345, 12345)
			}
			for k := range texts {
				texts[k] = "spoiled"
			}
		}
		f[i] = with(2, strs("spoiled"))
	}
}

// P10.1: filters stay as they are, and aren't kept: neither by New nor by Of.
func TestFiltersStayAndAreNotKept(t *testing.T) {
	d := dice(3)
	for range 60 {
		f, g := filterOf(d.some(4)), filterOf(d.some(4))
		list := []api.Filter{roomy(f), roomy(g), nil}[:2]
		wholeF, wholeG := whole(list[0]), whole(list[1])
		s := diagram.New(list...)
		a, b := s.Of(list[0]), s.Of(list[1])
		if !slices.EqualFunc(whole(list[0]), wholeF, equal) || !slices.EqualFunc(whole(list[1]), wholeG, equal) || list[:3][2] != nil {
			t.Fatalf("%v, %v: changed", f, g)
		}
		spoil(list[0])
		spoil(list[1])
		list[0], list[1] = nil, nil
		again := diagram.New(f, g)
		if s.Of(f) != a || s.Of(g) != b || again.Of(f) != a || again.Of(g) != b {
			t.Fatalf("%v, %v: other diagrams, when the lists that were handed in had changed", f, g)
		}
		for row := range allRows {
			if e := eventOf(row); s.Has(a, e) != again.Has(a, e) || s.Has(b, e) != again.Has(b, e) {
				t.Fatalf("%v, %v: other events, when the lists that were handed in had changed", f, g)
			}
		}
	}
}

// P10.1: two spaces know nothing of each other.
func TestSpacesAreApart(t *testing.T) {
	f := fullFilter()
	s, other := diagram.New(f), diagram.New(f)
	s.Of(f)
	if other.Nodes() != 0 || other.Asked() != 0 || other.Size(47) != 0 || other.Not(47) != 0 {
		t.Errorf("%d nodes, asked %d, size %d", other.Nodes(), other.Asked(), other.Size(47))
	}
	if a := other.Of(f); a != 47 || other.Asked() != 2 || s.Asked() != 1 {
		t.Errorf("the diagram %d, asked %d and %d", a, other.Asked(), s.Asked())
	}
}

// P10.2: Of, And, Or and Not are counted, whatever they answer, and nothing else is.
func TestAsked(t *testing.T) {
	f := fullFilter()
	s := diagram.New(f)
	for i, ask := range []func(){
		func() { s.Of(f) }, func() { s.Of(f) }, func() { s.Of(nil) }, func() { s.Of(apart(5)) }, func() { s.Of(apart(1)) },
		func() { s.And(2, 47) }, func() { s.Or(2, 47) }, func() { s.Not(47) }, func() { s.Not(47) },
		func() { s.And(0, 1) }, func() { s.Or(1, 0) }, func() { s.Not(0) }, func() { s.And(-1, 0) }, func() { s.Or(0, 999) }, func() { s.Not(999) },
	} {
		ask()
		s.Size(47)
		s.Has(47, api.Event{})
		s.Nodes()
		if got := s.Asked(); got != i+1 || s.Asked() != got {
			t.Errorf("asked %d times, not %d", got, i+1)
		}
	}
}

// P10.2: others may look how often one asks, while one does.
func TestAskedWhileOthersLookOn(t *testing.T) {
	const times = 50
	f := fullFilter()
	s := diagram.New(f)
	var others sync.WaitGroup
	for range 4 {
		others.Go(func() {
			last := 0
			for range 1000 {
				now := s.Asked()
				if now < last || now > 4*times {
					t.Errorf("asked %d times, and %d ahead of that", now, last)
				}
				last = now
			}
		})
	}
	for range times {
		a := s.Of(f)
		s.Not(s.And(a, s.Or(0, a)))
	}
	others.Wait()
	if got := s.Asked(); got != 4*times {
		t.Errorf("asked %d times", got)
	}
}
