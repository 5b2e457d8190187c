package wire_test

import (
	"slices"
	"testing"

	"arbour/api"
	"arbour/codec"
	"arbour/wire"
)

// roomy lays a filter whose lists have spare room, with something in it that must stay.
func roomy(f api.Filter) api.Filter {
	out := slices.Clone(f)
	for i := range out {
		for attr, s := range out[i] {
			s.Ints = append(slices.Clone(s.Ints), r(-99, -98), r(98, 99), r(5, 1))[:len(s.Ints)]
			s.Strs = append(slices.Clone(s.Strs), "spare", "room", "")[:len(s.Strs)]
			out[i][attr] = s
		}
	}
	return append(out, with(1, strs("spare")), api.Box{})[:len(f)]
}

// whole answers a copy of a filter, whose lists go to the end of their room.
func whole(f api.Filter) api.Filter {
	out := slices.Clone(f[:cap(f)])
	for i := range out {
		for attr, s := range out[i] {
			s.Ints, s.Strs = slices.Clone(s.Ints[:cap(s.Ints)]), slices.Clone(s.Strs[:cap(s.Strs)])
			out[i][attr] = s
		}
	}
	return out
}

// spoilSet writes over all of a set's lists, their spare room too; spoil over those of a filter.
func spoilSet(s api.Set) {
	numbers, names := s.Ints[:cap(s.Ints)], s.Strs[:cap(s.Strs)]
	for i := range numbers {
		numbers[i] = r(-12345, 12345)
	}
	for i := range names {
		names[i] = "spoiled"
	}
}

func spoil(f api.Filter) {
	f = f[:cap(f)]
	for i, b := range f {
		for _, s := range b {
			spoilSet(s)
		}
		f[i] = with(2, strs("spoiled"))
	}
}

// P8.1, P8.2: what is handed in stays as it is, its spare room too.
func TestWhatIsHandedInStays(t *testing.T) {
	var list []api.Filter
	for _, c := range someFilters() {
		list = append(list, c.f)
	}
	for i, plain := range append(list, wrongFilters()...) {
		f := roomy(plain)
		want := whole(f)
		wire.Filter(f)
		wire.PutFilter(f)
		if !equal(whole(f), want) {
			t.Fatalf("filter %d: changed", i)
		}
	}
}

// P8.1, P8.2: an answer shares nothing with another one.
func TestAnswersAreNewMemory(t *testing.T) {
	for _, c := range someFilters() {
		got, _ := wire.ReadFilter(c.bytes)
		want := whole(got)
		again, _ := wire.ReadFilter(c.bytes)
		spoil(again)
		reader := codec.Read(c.bytes + c.bytes)
		spoil(wire.TakeFilter(reader))
		spoil(wire.TakeFilter(reader))
		if !equal(whole(got), want) {
			t.Fatalf("ReadFilter(%q) shares memory with a later answer", c.bytes)
		}
	}
}

// P8.1: no two lists of one answer share memory.
func TestListsOfAnAnswerAreApart(t *testing.T) {
	s := api.Set{Ints: []api.Range{r(1, 2), r(4, 5)}, Strs: []string{"a", "b"}}
	f := api.Filter{{s, s, s, others("x")}, {s, s, others("x"), s}, {s, others("x"), s, s}, {s, s, s, s}}
	f[3][0].Absent = true
	bytes := filterBytes(f)
	for i := range len(f) * api.Attrs {
		got, err := wire.ReadFilter(bytes)
		if err != api.OK || len(got) != len(f) {
			t.Fatalf("ReadFilter(%q): %v, %d", bytes, got, err)
		}
		want := whole(got)[:len(f)]
		spoilSet(got[i/api.Attrs][i%api.Attrs])
		now := whole(got)[:len(f)]
		for k := range len(f) * api.Attrs {
			if k != i && !equalSets(now[k/api.Attrs][k%api.Attrs], want[k/api.Attrs][k%api.Attrs]) {
				t.Fatalf("sets %d and %d of one answer share memory", i, k)
			}
		}
	}
}
