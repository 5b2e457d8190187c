package wire_test

import (
	"math"
	"slices"
	"strings"
	"testing"

	"arbour/api"
	"arbour/codec"
	"arbour/wire"
)

// greatSets are right, and not small.
func greatSets() []api.Set {
	var numbers []api.Range
	var names []string
	for i := range 7 {
		numbers = append(numbers, r(2*i, 2*i))
		names = append(names, string(rune('a'+i)))
	}
	return []api.Set{ints(numbers...), strs(names...), others(names...), {Ints: numbers, Strs: names}}
}

// wrongSets aren't right.
func wrongSets() []api.Set {
	return []api.Set{
		ints(r(2, 1)), ints(r(math.MaxInt, math.MinInt)), ints(r(5, 6), r(1, 2)), ints(r(1, 2), r(3, 4)), ints(r(1, 5), r(2, 3)), ints(r(1, 1), r(1, 1)),
		ints(r(math.MinInt, math.MaxInt), r(math.MinInt, math.MaxInt)), ints(r(math.MaxInt, math.MaxInt), r(math.MinInt, math.MinInt)), ints(r(1, 2), r(4, 3)),
		strs("b", "a"), strs("a", "a"), strs("123456789"), others("b", "a"), others("a", "a"), others("123456789"), strs(strings.Repeat("\x00", 1<<16)),
		{Absent: true, Ints: []api.Range{r(3, 2), r(1, 9), r(-5, -8)}, Co: true, Strs: []string{"z", "", "a long string", "", "z"}},
		ints(make([]api.Range, 9)...), strs(make([]string, 9)...),
	}
}

// wrongFilters mayn't be: by a set, by a box without events, by a box within another one, or by too many boxes.
func wrongFilters() []api.Filter {
	f := apart(4)
	var out []api.Filter
	for _, s := range slices.Concat(greatSets(), wrongSets(), []api.Set{{}}) {
		for attr := range api.Attrs {
			b := with(attr, s)
			out = append(out, api.Filter{b}, api.Filter{f[0], b}, api.Filter{b, f[0]}, api.Filter{f[0], f[1], b, f[2]}, api.Filter{f[0], f[1], f[2], b})
		}
		out = append(out, api.Filter{{s, s, s, s}})
	}
	for i, b := range f {
		wider := with(i, ints(r(10*i-1, 10*i+1)))
		out = append(out, api.Filter{b, b}, api.Filter{b, f[(i+1)%4], b}, api.Filter{b, wider}, api.Filter{wider, b}, api.Filter{with(i, others()), b, wider}, api.Filter{b, with(i, allOf())}, api.Filter{with(i, allOf()), b})
	}
	return append(out, apart(5), apart(17), slices.Repeat(f, 4096), make(api.Filter, 1), make(api.Filter, 5), make(api.Filter, 1<<12))
}

func wrongValues() []api.Value {
	return []api.Value{
		{N: 1}, {N: -1}, {S: "x"}, {Kind: api.Int, N: 1, S: "x"}, {Kind: api.Str, N: 1, S: "x"}, {Kind: api.Str, N: -1},
		str("123456789"), str(strings.Repeat("x", 1<<16)), {Kind: 3}, {Kind: 4, N: 1}, {Kind: -1}, {Kind: 256}, {Kind: 257, N: 5}, {Kind: 258, S: "x"}, {Kind: math.MaxInt}, {Kind: math.MinInt},
	}
}

// P8.1: what mayn't be has no bytes. P8.2: put without a look, it has any; but there is no panic.
func TestWrongFilters(t *testing.T) {
	for i, f := range wrongFilters() {
		if s, err := wire.Filter(f); s != "" || err != api.ErrArg {
			t.Errorf("Filter of wrong filter %d: %q, %d", i, s, err)
		}
		wire.PutFilter(f)
	}
}

// P8.1, P8.2
func TestWrongEvents(t *testing.T) {
	for _, v := range wrongValues() {
		for attr := range api.Attrs {
			for _, e := range []api.Event{{}, {number(1), str("x"), {}, number(0)}} {
				e[attr] = v
				if s, err := wire.Event(e); s != "" || err != api.ErrArg {
					t.Errorf("Event(%v): %q, %d", e, s, err)
				}
				wire.PutEvent(e)
			}
		}
	}
}

// checkNoFilter looks that bytes are no filter, and by what a reader of them stops; by anything, if that is OK.
func checkNoFilter(t *testing.T, s string, want api.Errno) {
	t.Helper()
	if f, err := wire.ReadFilter(s); f != nil || err != api.ErrForm {
		t.Errorf("ReadFilter(%q): %v, %d", s, f, err)
	}
	reader := codec.Read(s)
	if f := wire.TakeFilter(reader); f != nil {
		t.Errorf("TakeFilter of %q: %v", s, f)
	}
	if err := reader.Err(); err == api.OK || want != api.OK && err != want || reader.Left() != 0 {
		t.Errorf("TakeFilter of %q: %d, not %d, and %d bytes left", s, err, want, reader.Left())
	}
}

func checkNoEvent(t *testing.T, s string, want api.Errno) {
	t.Helper()
	if e, err := wire.ReadEvent(s); e != (api.Event{}) || err != api.ErrForm {
		t.Errorf("ReadEvent(%q): %v, %d", s, e, err)
	}
	reader := codec.Read(s)
	if e := wire.TakeEvent(reader); e != (api.Event{}) {
		t.Errorf("TakeEvent of %q: %v", s, e)
	}
	if err := reader.Err(); err == api.OK || want != api.OK && err != want || reader.Left() != 0 {
		t.Errorf("TakeEvent of %q: %d, not %d, and %d bytes left", s, err, want, reader.Left())
	}
}

// P8.1, P8.2: the bytes that a filter that mayn't be would have are no filter's.
func TestBytesOfWrongFilters(t *testing.T) {
	for _, f := range wrongFilters() {
		s, want := filterBytes(f), api.ErrForm
		if strings.Contains(s, "123456789") || strings.Contains(s, "a long string") || len(s) > 1<<16 {
			want = api.OK // a string that is too long is ErrLong by the codec's words
		}
		checkNoFilter(t, s, want)
	}
}

// filterOf lays the bytes of a filter of one box, with any bytes in the place of a set.
func filterOf(attr int, set string) string {
	return "\x01" + strings.Repeat(allBytes, attr) + set + strings.Repeat(allBytes, api.Attrs-1-attr)
}

// P8.1, P8.2: wrong bytes in the place of a set.
func TestWrongSetsBytes(t *testing.T) {
	for set, want := range map[string]api.Errno{
		"\x00\x00\x00":                      api.ErrForm, // no value
		"\x00\x01\x0a\x02\x00":              api.ErrForm, // 5 to 1
		"\x00\x02\x02\x04\x06\x08\x00":      api.ErrForm, // 1 to 2, 3 to 4
		"\x00\x02\x0a\x0a\x02\x02\x00":      api.ErrForm, // 5, 1
		"\x00\x02\x02\x02\x02\x02\x00":      api.ErrForm, // 1 twice
		"\x00\x00\x02\x01b\x01a":            api.ErrForm,
		"\x00\x00\x02\x01a\x01a":            api.ErrForm,
		"\x00\x00\x02\x01a\x00":             api.ErrForm,
		"\x00\x00\x01\x09123456789":         api.ErrLong,
		"\x00\x00\x01\x81\x00" + "12345678": api.ErrLong,
		"\x00\x00\x01\x80\x01x":             api.ErrForm, // a nought ahead
		"\x00\x00\x80\x01\x01x":             api.ErrForm,
		"\x00\x80\x01\x02\x02\x00":          api.ErrForm,
		"\x00\x80\x00\x01\x01x":             api.ErrForm,
		"\x00\x01\x80\x02\x02\x00":          api.ErrForm,
		"\x00\x01\x02\x80\x02\x00":          api.ErrForm,
		"\x00\x07\x02\x02\x06\x06\x0a\x0a\x0e\x0e\x12\x12\x16\x16\x1a\x1a\x00": api.ErrForm, // seven ranges
		"\x00\x00\x07\x01a\x01b\x01c\x01d\x01e\x01f\x01g":                      api.ErrForm, // seven strings
		"\x02\x00\x07\x01a\x01b\x01c\x01d\x01e\x01f\x01g":                      api.ErrForm,
		"\x00\x81\xff\xff\xff\xff\xff\xff\xff\xff\x7f\x00":                     api.ErrForm, // 2^64 - 1 ranges
		"\x00\x00\x81\xff\xff\xff\xff\xff\xff\xff\xff\x7f":                     api.ErrForm,
		"\x00\x00\x01\x81\xff\xff\xff\xff\xff\xff\xff\xff\x7f":                 api.ErrLong,
		"\x00\x01\x82\x80\x80\x80\x80\x80\x80\x80\x80\x00\x02\x00":             api.ErrForm, // 2^64
	} {
		for attr := range api.Attrs {
			checkNoFilter(t, filterOf(attr, set), want)
		}
	}
	for first := 4; first < 256; first++ {
		for _, rest := range []string{"\x00\x00", "\x01\x02\x02\x00", "\x00\x01\x01x"} {
			checkNoFilter(t, filterOf(first%4, string([]byte{byte(first)})+rest), api.ErrForm)
		}
	}
}

// P8.1, P8.2: wrong numbers of boxes.
func TestWrongNumbersOfBoxes(t *testing.T) {
	box := strings.Repeat(allBytes, 4)
	for _, count := range []string{"\x05", "\x06", "\x7f", "\x81\x00", "\x80\x01", "\x80\x00", "\x81\xff\xff\xff\xff\xff\xff\xff\xff\x7f", "\x82\x80\x80\x80\x80\x80\x80\x80\x80\x00"} {
		for _, behind := range []string{"", box, strings.Repeat(box, 5)} {
			checkNoFilter(t, count+behind, api.ErrForm)
		}
	}
	checkNoFilter(t, filterBytes(apart(5)), api.ErrForm)
	checkNoFilter(t, "\x02"+box+box, api.ErrForm)
	checkNoFilter(t, "\x02"+box, api.ErrTorn)
	checkNoFilter(t, "\x04"+filterBytes(apart(3))[1:], api.ErrTorn)
}

// P8.1: a filter with more behind it is none; nor is one whose number of boxes is too small.
func TestMoreBehind(t *testing.T) {
	for i, c := range someFilters() {
		for b := range 256 {
			s := c.bytes + string([]byte{byte(b)})
			if f, err := wire.ReadFilter(s); f != nil || err != api.ErrForm {
				t.Fatalf("ReadFilter(%q): %v, %d", s, f, err)
			}
		}
		if len(c.f) > 0 {
			s := string([]byte{byte(len(c.f) - 1)}) + c.bytes[1:]
			if f, err := wire.ReadFilter(s); f != nil || err != api.ErrForm {
				t.Fatalf("%d: ReadFilter(%q): %v, %d", i, s, f, err)
			}
		}
	}
	for i, c := range someEvents() {
		s := c.bytes + string([]byte{byte(i)})
		if e, err := wire.ReadEvent(s); e != (api.Event{}) || err != api.ErrForm {
			t.Fatalf("ReadEvent(%q): %v, %d", s, e, err)
		}
	}
}

// P8.1, P8.2: wrong bytes in the place of a value.
func TestWrongEventsBytes(t *testing.T) {
	for v, want := range map[string]api.Errno{
		"\x03":                 api.ErrForm,
		"\x03\x00":             api.ErrForm,
		"\x04\x02":             api.ErrForm,
		"\x80":                 api.ErrForm,
		"\x81":                 api.ErrForm,
		"\x82\x01x":            api.ErrForm,
		"\xff":                 api.ErrForm,
		"\x01\x80\x02":         api.ErrForm,
		"\x01\x80\x00":         api.ErrForm,
		"\x02\x80\x01x":        api.ErrForm,
		"\x02\x80\x00":         api.ErrForm,
		"\x02\x09123456789":    api.ErrLong,
		"\x02\x7f":             api.ErrLong,
		"\x02\x81\x0012345678": api.ErrLong,
		"\x02\x81\xff\xff\xff\xff\xff\xff\xff\xff\x7f":     api.ErrLong,
		"\x01\x82\x80\x80\x80\x80\x80\x80\x80\x80\x00":     api.ErrForm,
		"\x01\x81\x80\x80\x80\x80\x80\x80\x80\x80\x80\x00": api.ErrForm,
	} {
		for attr := range api.Attrs {
			for _, right := range []string{"\x00", "\x01\x02", "\x02\x01q"} {
				checkNoEvent(t, strings.Repeat(right, attr)+v+strings.Repeat(right, api.Attrs-1-attr), want)
			}
		}
	}
	for kind := 3; kind < 256; kind++ {
		checkNoEvent(t, strings.Repeat("\x00", kind%4)+string([]byte{byte(kind)})+"\x00\x00\x00\x00", api.ErrForm)
	}
}

// P8.1, P8.2: what is cut off anywhere is torn.
func TestTornBytes(t *testing.T) {
	for i, c := range someFilters() {
		for at := range len(c.bytes) {
			if i%5 == 0 || at < 30 {
				checkNoFilter(t, c.bytes[:at], api.ErrTorn)
			}
		}
	}
	for i, c := range someEvents() {
		for at := range len(c.bytes) {
			if i%13 == 0 {
				checkNoEvent(t, c.bytes[:at], api.ErrTorn)
			}
		}
	}
}
