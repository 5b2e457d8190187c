package gap_test

import (
	"math"
	"slices"
	"testing"

	"arbour/api"
	"arbour/gap"
	"arbour/pieces"
)

// P12.1
func TestFar(t *testing.T) {
	if gap.Far() != 18446744073709551615 {
		t.Error(gap.Far())
	}
}

// P12.1
func TestAdd(t *testing.T) {
	list := []uint64{0, 1, 2, 7, 1<<63 - 1, 1 << 63, 1<<63 + 1, farOff - 2, farOff - 1, farOff}
	for _, a := range list {
		for _, b := range list {
			if got, want := gap.Add(a, b), together(a, b); got != want {
				t.Errorf("%d and %d: %d, not %d", a, b, got, want)
			}
		}
	}
	for i, c := range []struct{ a, b, want uint64 }{
		{2, 3, 5}, {0, 0, 0}, {farOff, 0, farOff}, {0, farOff, farOff}, {farOff, farOff, farOff}, {farOff, 1, farOff},
		{farOff - 1, 0, farOff - 1}, {farOff - 1, 1, farOff}, {farOff - 1, 2, farOff}, {1 << 63, 1<<63 - 2, farOff - 1}, {1 << 63, 1<<63 - 1, farOff}, {1 << 63, 1 << 63, farOff},
	} {
		if got := gap.Add(c.a, c.b); got != c.want {
			t.Errorf("%d: %d, not %d", i, got, c.want)
		}
	}
}

// P12.1
func TestValueExamples(t *testing.T) {
	s := api.Set{Ints: []api.Range{r(1, 5), r(20, 30)}, Strs: []string{"x", "y"}}
	for i, c := range []struct {
		s    api.Set
		v    api.Value
		want uint64
	}{
		{ints(r(1, 5)), number(9), 4}, {ints(r(1, 5)), api.Value{}, farOff}, {ints(r(1, 5)), str("x"), farOff}, {ints(r(1, 5)), number(-9), 10},
		{s, number(1), 0}, {s, number(5), 0}, {s, number(6), 1}, {s, number(12), 7}, {s, number(13), 7}, {s, number(19), 1}, {s, number(20), 0}, {s, number(31), 1},
		{s, str("x"), 0}, {s, str("y"), 0}, {s, str("z"), farOff}, {s, str(""), farOff}, {s, api.Value{}, farOff},
		{others("x"), str("x"), farOff}, {others("x"), str("y"), 0}, {others(), str("abcdefgh"), 0}, {others("x"), number(1), farOff}, {others(), api.Value{}, farOff},
		{api.Set{Absent: true}, api.Value{}, 0}, {api.Set{Absent: true}, number(0), farOff}, {api.Set{Absent: true}, str(""), farOff}, {api.Set{}, number(0), farOff},
		{ints(r(math.MinInt, math.MinInt)), number(math.MaxInt - 1), farOff - 1}, {ints(r(math.MinInt, math.MinInt)), number(math.MaxInt), farOff},
		{ints(r(math.MaxInt, math.MaxInt)), number(math.MinInt), farOff}, {ints(r(0, 0)), number(math.MinInt), 1 << 63}, {ints(r(math.MinInt, math.MaxInt)), number(7), 0},
	} {
		if got := gap.Value(c.s, c.v); got != c.want {
			t.Errorf("%d: %v from %v: %d, not %d", i, c.v, c.s, got, c.want)
		}
	}
}

// P12.1: of ranges as they come: rising or not, apart or not, with numbers or without.
func TestValueOfAnyRanges(t *testing.T) {
	const each = 16 // ranges from 0 to 3
	pick := func(i int) api.Range { return r(i/4, i%4) }
	for list := range each * each * each {
		s := ints(pick(list%each), pick(list/each%each), pick(list/each/each))
		for n := -2; n < 6; n++ {
			want := uint64(farOff)
			for m := range 4 {
				if d := uint64(max(n-m, m-n)); has(s, number(m)) && d < want {
					want = d
				}
			}
			if got := gap.Value(s, number(n)); got != want {
				t.Fatalf("%d from %v: %d, not %d", n, s, got, want)
			}
		}
	}
}

// P12.1: as far as an int goes.
func TestValueAtTheEnds(t *testing.T) {
	list := edges()
	for _, lo := range list {
		for _, hi := range list {
			for _, other := range list {
				s := ints(r(lo, hi), r(other, max(other, 3)))
				for _, n := range list {
					if got, want := gap.Value(s, number(n)), fromNumber(s.Ints, n); got != want {
						t.Fatalf("%d from %v: %d, not %d", n, s, got, want)
					}
					if got, want := gap.Value(ints(r(lo, hi)), number(n)), fromNumber([]api.Range{r(lo, hi)}, n); got != want {
						t.Fatalf("%d from %d to %d: %d, not %d", n, lo, hi, got, want)
					}
				}
			}
		}
	}
}

// P12.1: strings in whatever order, twice too, and too long ones.
func TestValueOfAnyStrings(t *testing.T) {
	for _, list := range [][]string{{"b", "a"}, {"a", "a"}, {"c", "", "b", "", "a"}, {"123456789", "b"}, {"b", "123456789", "a"}, {"12345678", "x", "b", "a", "0"}} {
		for _, name := range append([]string{"", "a", "b", "c", "0", "12345678", "zz"}, list...) {
			if len(name) > api.MaxString {
				continue
			}
			in, out := uint64(farOff), uint64(0)
			if slices.Contains(list, name) {
				in, out = out, in
			}
			if got := gap.Value(strs(list...), str(name)); got != in {
				t.Errorf("%q from %q: %d, not %d", name, list, got, in)
			}
			if got := gap.Value(others(list...), str(name)); got != out {
				t.Errorf("%q from all but %q: %d, not %d", name, list, got, out)
			}
		}
	}
}

// P12.1: what may not be is far from everything, even from a set that seems to have it.
func TestWrongValues(t *testing.T) {
	sets := append(pieces.WrongSets(), pieces.SetOf(pieces.Each), api.Set{}, strs("123456789"), api.Set{Absent: true, Co: true})
	for _, v := range pieces.WrongValues() {
		for _, s := range sets {
			if got := gap.Value(s, v); got != farOff {
				t.Errorf("%v from %v: %d", v, s, got)
			}
		}
		for attr := range api.Attrs {
			e := api.Event{}
			e[attr] = v
			if got := gap.Box(all(), e); got != farOff {
				t.Errorf("%v at %d: %d", v, attr, got)
			}
			if got := gap.Filter(api.Filter{{}, all(), all()}, e); got != farOff {
				t.Errorf("%v at %d: %d", v, attr, got)
			}
		}
	}
}

// P12.1: all four values count, wherever the distances stand.
func TestBox(t *testing.T) {
	five := api.Box{ints(r(1, 5)), ints(r(1, 5)), ints(r(1, 5)), ints(r(1, 5))}
	for i, c := range []struct {
		e    api.Event
		want uint64
	}{
		{api.Event{number(1), number(3), number(5), number(2)}, 0},
		{api.Event{number(6), number(3), number(5), number(2)}, 1},
		{api.Event{number(6), number(-1), number(5), number(2)}, 3},
		{api.Event{number(6), number(-1), number(9), number(2)}, 7},
		{api.Event{number(6), number(-1), number(9), number(13)}, 15},
		{api.Event{number(5), number(3), number(5), {}}, farOff},
		{api.Event{str("x"), number(3), number(5), number(1)}, farOff},
		{api.Event{number(math.MaxInt), number(math.MaxInt), number(5), number(1)}, farOff - 11},
		{api.Event{number(math.MaxInt), number(math.MaxInt), number(-9), number(1)}, farOff - 1},
		{api.Event{number(math.MaxInt), number(math.MaxInt), number(-9), number(6)}, farOff},
		{api.Event{number(math.MaxInt), number(math.MaxInt), number(math.MaxInt), number(math.MaxInt)}, farOff},
	} {
		if got := gap.Box(five, c.e); got != c.want {
			t.Errorf("%d: %d, not %d", i, got, c.want)
		}
	}
	if got := gap.Box(api.Box{}, api.Event{}); got != farOff {
		t.Errorf("of no value: %d", got)
	}
	if got := gap.Box(all(), api.Event{}); got != 0 {
		t.Errorf("of all events: %d", got)
	}
}

// P12.1: the least one of the boxes, wherever that stands.
func TestFilter(t *testing.T) {
	near, midst, off := with(1, ints(r(8, 9))), with(1, ints(r(20, 30))), with(1, strs("x"))
	e := api.Event{1: number(5)}
	for i, c := range []struct {
		f    api.Filter
		want uint64
	}{
		{nil, farOff}, {api.Filter{}, farOff}, {api.Filter{off}, farOff}, {api.Filter{{}}, farOff}, {api.Filter{off, {}, off}, farOff},
		{api.Filter{near}, 3}, {api.Filter{midst}, 15}, {api.Filter{near, midst, off}, 3}, {api.Filter{off, midst, near}, 3}, {api.Filter{midst, near, off, off, off}, 3},
		{api.Filter{midst, near, all()}, 0}, {api.Filter{off, midst, midst}, 15},
	} {
		if got := gap.Filter(c.f, e); got != c.want {
			t.Errorf("%d: %d, not %d", i, got, c.want)
		}
	}
	if got := gap.Filter(nil, api.Event{}); got != farOff {
		t.Errorf("of no box: %d", got)
	}
}

// randomSet lays a set that may be right, or not: few numbers and strings, in any order.
func randomSet(d *dice) api.Set {
	ends := edges()
	s := api.Set{Absent: d.Roll(2) > 0, Co: d.Roll(2) > 0}
	for range d.Roll(4) {
		s.Ints = append(s.Ints, r(ends[d.Roll(len(ends))], ends[d.Roll(len(ends))]))
	}
	for range d.Roll(3) {
		s.Strs = append(s.Strs, []string{"x", "y", "", "too long!"}[d.Roll(4)])
	}
	return s
}

func randomEvent(d *dice) api.Event {
	ends := edges()
	var e api.Event
	for attr := range e {
		switch d.Roll(8) {
		case 0:
			e[attr] = str([]string{"x", "y", ""}[d.Roll(3)])
		case 1:
		default:
			e[attr] = number(ends[d.Roll(len(ends))])
		}
	}
	return e
}

// P12.1: boxes and filters of any sets.
func TestBoxesAndFiltersOfAnySets(t *testing.T) {
	d := dice(12)
	for range 3000 {
		var f api.Filter
		for range d.Roll(6) {
			b := all()
			for attr := range b {
				if d.Roll(2) > 0 {
					b[attr] = randomSet(&d)
				}
			}
			f = append(f, b)
		}
		e := randomEvent(&d)
		for _, b := range f {
			if got, want := gap.Box(b, e), fromBox(b, e); got != want {
				t.Fatalf("%v from %v: %d, not %d", e, b, got, want)
			}
		}
		if got, want := gap.Filter(f, e), fromFilter(f, e); got != want {
			t.Fatalf("%v from %v: %d, not %d", e, f, got, want)
		}
	}
}
