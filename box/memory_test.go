package box_test

import (
	"slices"
	"testing"

	"arbour/api"
	"arbour/box"
)

// roomySet lays a set whose lists have spare room, with something in it that must stay.
func roomySet(s api.Set) api.Set {
	s.Ints = append(slices.Clone(s.Ints), r(-99, -98), r(98, 99), r(5, 1))[:len(s.Ints)]
	s.Strs = append(slices.Clone(s.Strs), "spare", "room", "")[:len(s.Strs)]
	return s
}

func roomy(b api.Box) api.Box {
	for attr := range b {
		b[attr] = roomySet(b[attr])
	}
	return b
}

// wholeSet answers a copy of a set, whose lists go to the end of their room.
func wholeSet(s api.Set) api.Set {
	s.Ints = slices.Clone(s.Ints[:cap(s.Ints)])
	s.Strs = slices.Clone(s.Strs[:cap(s.Strs)])
	return s
}

func whole(b api.Box) api.Box {
	for attr := range b {
		b[attr] = wholeSet(b[attr])
	}
	return b
}

// spoilSet writes over all of a set's lists, their spare room too.
func spoilSet(s api.Set) {
	for i := range s.Ints[:cap(s.Ints)] {
		s.Ints[:cap(s.Ints)][i] = r(-12345, 12345)
	}
	for i := range s.Strs[:cap(s.Strs)] {
		s.Strs[:cap(s.Strs)][i] = "spoiled"
	}
}

func spoil(b api.Box) {
	for _, s := range b {
		spoilSet(s)
	}
}

func boxesToSpoil() []api.Box {
	list := append(wrongBoxes(), api.Box{}, all())
	for _, m := range manyMasks(low|high|notX, absent|x) {
		list = append(list, m.box())
	}
	return list
}

// P4.1, P4.2: what is handed in stays, whatever becomes of the answers.
func TestWhatIsHandedInStays(t *testing.T) {
	list := boxesToSpoil()
	for i, left := range list {
		for _, right := range list {
			a, b, s := roomy(left), roomy(right), roomySet(right[i%api.Attrs])
			wholeA, wholeB, wholeS := whole(a), whole(b), wholeSet(s)
			box.Right(a)
			box.Small(a)
			box.Empty(a)
			box.Has(a, api.Event{number(1), str("x")})
			box.Same(a, b)
			box.Differ(a, b)
			box.In(a, b)
			spoil(box.And(a, b))
			for _, attr := range []int{-1, 0, 1, 2, 3, 4} {
				spoil(box.Atom(attr, s))
				spoil(box.With(a, attr, s))
			}
			if !equal(whole(a), wholeA) || !equal(whole(b), wholeB) || !equalSets(wholeSet(s), wholeS) {
				t.Fatalf("%v, %v: changed", left, right)
			}
		}
	}
}

// answers are boxes of all calls that answer one.
func answers(a, b api.Box) []api.Box {
	out := []api.Box{box.All(), box.And(a, b), box.And(a, a)}
	for _, attr := range []int{-1, 0, 1, 2, 3, 4} {
		out = append(out, box.Atom(attr, b[0]), box.With(a, attr, b[0]), box.With(a, attr, a[0]))
	}
	return out
}

// P4.1, P4.2: an answer shares nothing with another one, and doesn't change with what was handed in.
func TestAnswersAreNewMemory(t *testing.T) {
	list := boxesToSpoil()
	for _, left := range list {
		for _, right := range []api.Box{{}, all(), left, masks{low, high, absent, notX}.box()} {
			a, b := roomy(left), roomy(right)
			got := answers(a, b)
			var want []api.Box
			for _, g := range got {
				want = append(want, whole(g))
			}
			for _, later := range answers(a, b) {
				spoil(later)
			}
			spoil(a)
			spoil(b)
			for i := range got {
				if !equal(whole(got[i]), want[i]) {
					t.Fatalf("answer %d of %v and %v shares memory", i, left, right)
				}
			}
		}
	}
}

// P4.1, P4.2: no two lists of one answer share memory, not even where those handed in do.
func TestListsOfAnAnswerAreApart(t *testing.T) {
	s := roomySet(api.Set{Ints: []api.Range{r(1, 2), r(4, 5)}, Strs: []string{"a", "b"}})
	a, b := api.Box{s, s, s, s}, api.Box{s, s, s, s}
	for i, got := range answers(a, b) {
		for attr := range api.Attrs {
			want := whole(got)
			spoilSet(got[attr])
			for other := range api.Attrs {
				if other != attr && !equalSets(wholeSet(got[other]), want[other]) {
					t.Fatalf("answer %d: attributes %d and %d share memory", i, attr, other)
				}
			}
		}
	}
}
