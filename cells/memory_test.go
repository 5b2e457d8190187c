package cells_test

import (
	"slices"
	"testing"

	"arbour/api"
	"arbour/box"
	"arbour/cells"
	"arbour/set"
)

// roomy lays a set whose lists have spare room, with something in it that must stay.
func roomy(s api.Set) api.Set {
	s.Ints = append(slices.Clone(s.Ints), r(-99, -98), r(98, 99), r(5, 1))[:len(s.Ints)]
	s.Strs = append(slices.Clone(s.Strs), "spare", "room", "")[:len(s.Strs)]
	return s
}

// whole answers a copy of a set, whose lists go to the end of their room.
func whole(s api.Set) api.Set {
	s.Ints = slices.Clone(s.Ints[:cap(s.Ints)])
	s.Strs = slices.Clone(s.Strs[:cap(s.Strs)])
	return s
}

// spoil writes over all of a set's lists, their spare room too.
func spoil(s api.Set) {
	for i := range s.Ints[:cap(s.Ints)] {
		s.Ints[:cap(s.Ints)][i] = r(-12345, 12345)
	}
	for i := range s.Strs[:cap(s.Strs)] {
		s.Strs[:cap(s.Strs)][i] = "spoiled"
	}
}

// roomyList is a list of roomy sets, with spare room of its own.
func roomyList(list []api.Set) []api.Set {
	var out []api.Set
	for _, s := range list {
		out = append(out, roomy(s))
	}
	return append(out, roomy(strs("spare")), roomy(ints(r(7, 7))))[:len(list)]
}

func wholeList(list []api.Set) []api.Set {
	var out []api.Set
	for _, s := range list[:cap(list)] {
		out = append(out, whole(s))
	}
	return out
}

// spoilList writes over the sets' lists, and over the list of the sets, its spare room too.
func spoilList(list []api.Set) {
	list = list[:cap(list)]
	for i := range list {
		spoil(list[i])
		list[i] = strs("spoiled")
	}
}

func listsToSpoil() [][]api.Set {
	out := [][]api.Set{nil, {{}}, {set.All()}, wrongSets(), sets(somePieces()), slices.Concat(wrongSets(), sets(somePieces())[:20])}
	for _, s := range slices.Concat(wrongSets(), sets(somePieces())) {
		out = append(out, []api.Set{s}, []api.Set{s, {}}, []api.Set{{}, s, s})
	}
	return out
}

// P9.1
func TestWhatIsHandedInStays(t *testing.T) {
	for _, handed := range listsToSpoil() {
		list := roomyList(handed)
		before := wholeList(list)
		spoilList(cells.Cut(list...))
		for _, v := range append(someValues(), wrongValues()...) {
			cells.Which(list, v)
		}
		for _, s := range list {
			cells.Sample(s)
			cells.In(s, list[0])
			cells.In(list[0], s)
		}
		if !equalLists(wholeList(list), before) {
			t.Fatalf("%v: changed", handed)
		}
	}
}

// P9.1: an answer of Cut shares no memory with what was handed in, nor do two of its cells.
func TestCutIsNewMemory(t *testing.T) {
	for _, handed := range listsToSpoil() {
		list := roomyList(handed)
		got := cells.Cut(list...)
		before := wholeList(got)
		spoilList(cells.Cut(list...))
		spoilList(list)
		if !equalLists(wholeList(got), before) {
			t.Fatalf("Cut(%v): changed with what was handed in, or with a later answer", handed)
		}
		checkApart(t, got)
	}
}

// checkApart spoils one set after the other, and looks whether those behind it stay.
func checkApart(t *testing.T, list []api.Set) {
	t.Helper()
	before := wholeList(list)
	for i, s := range list {
		if !equal(whole(s), before[i]) {
			t.Fatalf("the cell %d changed with one ahead of it: %v, not %v", i, whole(s), before[i])
		}
		spoil(s)
	}
}

func roomyFilters() []api.Filter {
	var out []api.Filter
	for _, f := range someFilters() {
		// The spare box must stay, too.
		g := append(slices.Clone(f), box.Atom(0, strs("spare")))[:len(f)]
		for i := range g {
			for attr := range g[i] {
				g[i][attr] = roomy(g[i][attr])
			}
		}
		out = append(out, g)
	}
	return append(out, api.Filter{box.Atom(1, strs("spare"))})[:len(out)]
}

// wholeFilters answers copies of all sets of some filters, spare ones too, in a row.
func wholeFilters(list []api.Filter) []api.Set {
	var out []api.Set
	for _, f := range list[:cap(list)] {
		for _, b := range f[:cap(f)] {
			for _, s := range b {
				out = append(out, whole(s))
			}
		}
	}
	return out
}

func spoilFilters(list []api.Filter) {
	for _, f := range list[:cap(list)] {
		for i, b := range f[:cap(f)] {
			for attr, s := range b {
				spoil(s)
				f[:cap(f)][i][attr] = strs("spoiled")
			}
		}
	}
	for i := range list {
		list[i] = api.Filter{box.Atom(2, strs("spoiled"))}
	}
}

// P9.2: filters stay as they are, and aren't kept: what is laid later hangs on what they were.
func TestGridKeepsNoFilters(t *testing.T) {
	list := roomyFilters()
	before := wholeFilters(list)
	g, h := cells.New(list...), cells.New(list...)
	checkGrid(t, g, someFilters()...)
	if got := wholeFilters(list); !equalLists(got, before) {
		t.Error("the filters changed")
	}
	spoilFilters(list)
	checkGrid(t, h, someFilters()...)
	checkGrid(t, g, someFilters()...)
}

// P9.2: answers of a grid share no memory with it, nor with each other.
func TestGridAnswersAreNewMemory(t *testing.T) {
	for _, f := range append(someFilters(), ofSize(0, 9), ofSize(3, 9)) {
		for _, g := range []*cells.Grid{cells.New(f), nil} {
			handed := f
			if g == nil {
				handed = nil
			}
			for attr := range api.Attrs {
				checkApart(t, g.Attr(attr))
				spoilList(g.Attr(attr))
			}
			events := g.Events()
			for i := range events[:cap(events)] {
				events[:cap(events)][i] = api.Event{str("spoiled")}
			}
			checkGrid(t, g, handed)
		}
	}
}
