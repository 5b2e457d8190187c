package set_test

import (
	"slices"
	"testing"

	"arbour/api"
	"arbour/set"
)

// roomy lays a set whose lists have spare room, with something in it that must stay.
func roomy(s api.Set) api.Set {
	s.Ints = append(slices.Clone(s.Ints), r(-99, -98), r(98, 99), r(5, 1))[:len(s.Ints)]
	s.Strs = append(slices.Clone(s.Strs), "spare", "room", "")[:len(s.Strs)]
	return s
}

// whole answers a set's lists to the end of their room.
func whole(s api.Set) api.Set {
	return api.Set{
		Absent: s.Absent, Ints: slices.Clone(s.Ints[:cap(s.Ints)]),
		Co: s.Co, Strs: slices.Clone(s.Strs[:cap(s.Strs)]),
	}
}

// spoil writes over all of an answer, its spare room too.
func spoil(s api.Set) {
	spoilRanges(s.Ints)
	list := s.Strs[:cap(s.Strs)]
	for i := range list {
		list[i] = "spoiled"
	}
}

func spoilRanges(list []api.Range) {
	list = list[:cap(list)]
	for i := range list {
		list[i] = r(-12345, 12345)
	}
}

// P3.1, P3.2
func TestWhatIsHandedInStays(t *testing.T) {
	list := append(wrongSets(), someSets()[:120]...)
	for _, x := range list {
		for _, y := range list {
			a, b := roomy(x), roomy(y)
			wholeA, wholeB := whole(a), whole(b)
			set.Right(a)
			set.Empty(a)
			set.Small(a)
			set.Same(a, b)
			set.In(a, b)
			set.Has(a, number(1))
			set.Has(a, str("a"))
			spoil(set.Not(a))
			spoil(set.Or(a, b))
			spoil(set.And(a, b))
			spoilRanges(set.Ranges(a.Ints...))
			if !equal(whole(a), wholeA) || !equal(whole(b), wholeB) {
				t.Fatalf("%v, %v: changed", x, y)
			}
		}
	}
}

// P3.1, P3.2
func TestAnswersAreNewMemory(t *testing.T) {
	for _, x := range someSets() {
		for _, y := range []api.Set{{}, set.All(), x, set.Not(x)} {
			or, and, not, ranges := set.Or(x, y), set.And(x, y), set.Not(x), set.Ranges(x.Ints...)
			want := []api.Set{whole(or), whole(and), whole(not), whole(api.Set{Ints: ranges})}
			for _, s := range []api.Set{set.Or(x, y), set.And(x, y), set.Not(x), {Ints: set.Ranges(x.Ints...)}} {
				spoil(s)
			}
			for i, s := range []api.Set{or, and, not, {Ints: ranges}} {
				if !equal(whole(s), want[i]) {
					t.Fatalf("answer %d of %v and %v shares memory with a later one", i, x, y)
				}
			}
		}
	}
}

// P3.2
func TestNoPanicAtWrongSets(t *testing.T) {
	list := append(wrongSets(), api.Set{}, set.All(), strs(make([]string, 9)...), ints(make([]api.Range, 9)...))
	values := append(wrongValues(), someValues()...)
	for _, a := range list {
		for _, v := range values {
			set.Has(a, v)
		}
		set.Right(a)
		set.Not(a)
		set.Empty(a)
		set.Small(a)
		for _, b := range list {
			set.Or(a, b)
			set.And(a, b)
			set.In(a, b)
			set.Same(a, b)
		}
	}
}
