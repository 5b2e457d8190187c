package wire_test

import (
	"strings"
	"testing"

	"arbour/api"
	"arbour/dnf"
	"arbour/wire"
)

// P8.1: the document's examples, and filters whose bytes are told by hand.
func TestFiltersByHand(t *testing.T) {
	for _, c := range []told{
		{nil, "\x00"},
		{api.Filter{}, "\x00"},
		{api.Filter{with(3, others())}, "\x01" + strings.Repeat(allBytes, 3) + "\x02\x00\x00"},
		{api.Filter{{others(), strs("x"), ints(r(-2, 2)), {Absent: true}}}, "\x01\x02\x00\x00\x00\x00\x01\x01x\x00\x01\x03\x04\x00\x01\x00\x00"},
		{
			api.Filter{{ints(r(7, 7)), others(), others(), others()}, {others(), ints(r(7, 7)), others(), others("a")}},
			"\x02\x00\x01\x0e\x0e\x00\x02\x00\x00\x02\x00\x00\x02\x00\x00\x02\x00\x00\x00\x01\x0e\x0e\x00\x02\x00\x00\x02\x00\x01\x01a",
		},
	} {
		if got, err := wire.Filter(c.f); got != c.bytes || err != api.OK {
			t.Errorf("Filter(%v): %q, %d", c.f, got, err)
		}
		if got, err := wire.ReadFilter(c.bytes); !equal(got, c.f) || err != api.OK {
			t.Errorf("ReadFilter(%q): %v, %d", c.bytes, got, err)
		}
	}
}

// P8.1, P8.2, P8.3: filters of all shapes become their bytes, and are read as they were.
func TestFilters(t *testing.T) {
	right := [5]int{}
	for _, c := range someFilters() {
		// A few that are laid as the others aren't right, as a box lies in another one.
		if !dnf.Right(c.f) {
			continue
		}
		right[len(c.f)]++
		if got, err := wire.Filter(c.f); got != c.bytes || err != api.OK {
			t.Fatalf("Filter(%v): %q, %d", c.f, got, err)
		}
		if got := wire.PutFilter(c.f); got != c.bytes {
			t.Fatalf("PutFilter(%v): %q", c.f, got)
		}
		if filterBytes(c.f) != c.bytes {
			t.Fatalf("%v: the test's own forms differ", c.f)
		}
		if got, err := wire.ReadFilter(c.bytes); !equal(got, c.f) || err != api.OK {
			t.Fatalf("ReadFilter(%q): %v, %d", c.bytes, got, err)
		}
	}
	for n, least := range [5]int{1, 50, 40, 40, 40} {
		if right[n] < least {
			t.Errorf("only %d filters of %d boxes", right[n], n)
		}
	}
}

// P8.1: four boxes are as many as may be, six ranges and six strings too.
func TestGreatestFilters(t *testing.T) {
	full := api.Set{Absent: true, Co: true, Ints: []api.Range{r(1, 1), r(3, 3), r(5, 5), r(7, 7), r(9, 9), r(11, 11)}, Strs: []string{"11111111", "22222222", "33333333", "44444444", "55555555", "66666666"}}
	f := api.Filter{{full, full, full, full}, {full, full, full, full}, {full, full, full, full}, {full, full, full, full}}
	for i := range f {
		f[i][i].Absent = false
		f[i][i].Ints = []api.Range{r(100*i, 100*i), r(100*i+2, 100*i+2), r(100*i+4, 100*i+4), r(100*i+6, 100*i+6), r(100*i+8, 100*i+8), r(1<<40, 1<<40+i)}
	}
	for _, f := range []api.Filter{f, apart(4)} {
		s, err := wire.Filter(f)
		if err != api.OK || s != filterBytes(f) {
			t.Fatalf("Filter(%v): %q, %d", f, s, err)
		}
		if got, err := wire.ReadFilter(s); err != api.OK || !equal(got, f) {
			t.Fatalf("ReadFilter(%q): %v, %d", s, got, err)
		}
	}
}

// P8.1: nil and an empty list are one.
func TestEmptyLists(t *testing.T) {
	for _, f := range []api.Filter{nil, {}, make(api.Filter, 0, 4)} {
		if got, err := wire.Filter(f); got != "\x00" || err != api.OK || wire.PutFilter(f) != got {
			t.Errorf("Filter(%#v): %q, %d", f, got, err)
		}
	}
	b := with(2, api.Set{Absent: true, Ints: []api.Range{}, Strs: []string{}})
	want := "\x01" + allBytes + allBytes + "\x01\x00\x00" + allBytes
	if got, err := wire.Filter(api.Filter{b}); got != want || err != api.OK {
		t.Errorf("Filter of a set with empty lists: %q, %d", got, err)
	}
}

// P8.1: the document's example, and events whose bytes are told by hand.
func TestEventsByHand(t *testing.T) {
	for want, e := range map[string]api.Event{
		"\x00\x00\x00\x00":                 {},
		"\x01\x02\x00\x00\x00":             {number(1)},
		"\x00\x00\x00\x01\x02":             {3: number(1)},
		"\x02\x01q\x00\x01\x01\x00":        {str("q"), {}, number(-1), {}},
		"\x02\x00\x02\x01\x00\x01\x00\x00": {str(""), str("\x00"), number(0), {}},
	} {
		if got, err := wire.Event(e); got != want || err != api.OK {
			t.Errorf("Event(%v): %q, %d", e, got, err)
		}
		if got, err := wire.ReadEvent(want); got != e || err != api.OK {
			t.Errorf("ReadEvent(%q): %v, %d", want, got, err)
		}
	}
}

// P8.1, P8.2, P8.3
func TestEvents(t *testing.T) {
	for _, c := range someEvents() {
		if got, err := wire.Event(c.e); got != c.bytes || err != api.OK {
			t.Fatalf("Event(%v): %q, %d", c.e, got, err)
		}
		if got := wire.PutEvent(c.e); got != c.bytes {
			t.Fatalf("PutEvent(%v): %q", c.e, got)
		}
		if eventBytes(c.e) != c.bytes {
			t.Fatalf("%v: the test's own forms differ", c.e)
		}
		if got, err := wire.ReadEvent(c.bytes); got != c.e || err != api.OK {
			t.Fatalf("ReadEvent(%q): %v, %d", c.bytes, got, err)
		}
	}
}

// P8.3: numbers of all lengths, at each attribute, in events and as ends of ranges.
func TestNumbersOfAllLengths(t *testing.T) {
	for bit := range 63 {
		for _, n := range []int{1 << bit, 1<<bit - 1, -1 << bit, -1<<bit - 1} {
			attr := bit % api.Attrs
			var e api.Event
			e[attr] = number(n)
			s, err := wire.Event(e)
			if got, again := wire.ReadEvent(s); got != e || err != api.OK || again != api.OK || s != eventBytes(e) {
				t.Fatalf("%v as %q: %v, %d, %d", e, s, got, err, again)
			}
			f := api.Filter{with(attr, ints(r(n, n))), with((attr+1)%api.Attrs, ints(r(min(n, -n), max(n, -n-2))))}
			s, err = wire.Filter(f)
			if got, again := wire.ReadFilter(s); !equal(got, f) || err != api.OK || again != api.OK || s != filterBytes(f) {
				t.Fatalf("%v as %q: %v, %d, %d", f, s, got, err, again)
			}
		}
	}
}

// P8.3: unlike filters have unlike bytes, and so have unlike events.
func TestUnlikeBytes(t *testing.T) {
	filters := map[string]api.Filter{}
	for _, c := range someFilters() {
		s := wire.PutFilter(c.f)
		if other, ok := filters[s]; ok && !equal(other, c.f) {
			t.Fatalf("%v and %v: both %q", other, c.f, s)
		}
		filters[s] = c.f
	}
	events := map[string]api.Event{}
	for _, c := range someEvents() {
		s := wire.PutEvent(c.e)
		if other, ok := events[s]; ok {
			t.Fatalf("%v and %v: both %q", other, c.e, s)
		}
		events[s] = c.e
	}
}
