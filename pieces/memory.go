package pieces

import (
	"slices"

	"arbour/api"
)

// Roomy lays a filter in new memory, whose lists have spare room, with something in it that must stay.
func Roomy(f api.Filter) api.Filter {
	var out api.Filter
	for _, b := range f {
		for attr, s := range b {
			b[attr].Ints = append(slices.Clone(s.Ints), R(-99, -98), R(98, 99), R(5, 1))[:len(s.Ints)]
			b[attr].Strs = append(slices.Clone(s.Strs), "spare", "room", "")[:len(s.Strs)]
		}
		out = append(out, b)
	}
	return append(out, With(1, Strs("spare")), api.Box{})[:len(f)]
}

// Whole answers all sets of a filter, spare ones too, with their lists to the end of their room.
func Whole(f api.Filter) []api.Set {
	var out []api.Set
	for _, b := range f[:cap(f)] {
		for _, s := range b {
			s.Ints, s.Strs = slices.Clone(s.Ints[:cap(s.Ints)]), slices.Clone(s.Strs[:cap(s.Strs)])
			out = append(out, s)
		}
	}
	return out
}

// Stayed tells whether all of a filter, its spare room too, is as Whole answered it.
func Stayed(f api.Filter, whole []api.Set) bool {
	return slices.EqualFunc(Whole(f), whole, func(a, b api.Set) bool {
		return a.Absent == b.Absent && a.Co == b.Co && slices.Equal(a.Ints, b.Ints) && slices.Equal(a.Strs, b.Strs)
	})
}

// Spoil writes over all of a filter, its spare room too.
func Spoil(f api.Filter) {
	f = f[:cap(f)]
	for i, b := range f {
		for _, s := range b {
			numbers, texts := s.Ints[:cap(s.Ints)], s.Strs[:cap(s.Strs)]
			for k := range numbers {
				numbers[k] = R(-12345, 12345)
			}
			for k := range texts {
				texts[k] = "spoiled"
			}
		}
		f[i] = With(2, Strs("spoiled"))
	}
}
