package wire_test

import (
	"math"
	"math/big"
	"slices"
	"strconv"
	"strings"

	"arbour/api"
)

func number(n int) api.Value { return api.Value{Kind: api.Int, N: n} }

func str(s string) api.Value { return api.Value{Kind: api.Str, S: s} }

func r(lo, hi int) api.Range { return api.Range{Lo: lo, Hi: hi} }

func ints(list ...api.Range) api.Set { return api.Set{Ints: list} }

func strs(list ...string) api.Set { return api.Set{Strs: list} }

func others(list ...string) api.Set { return api.Set{Co: true, Strs: list} }

func allOf() api.Set {
	return api.Set{Absent: true, Ints: []api.Range{r(math.MinInt, math.MaxInt)}, Co: true}
}

// The bytes of allOf.
const allBytes = "\x03\x01\x81\xff\xff\xff\xff\xff\xff\xff\xff\x7f\x81\xff\xff\xff\xff\xff\xff\xff\xff\x7e\x00"

// with lays the box of all events, but for an attribute. The tests lay boxes without a call of package box.
func with(attr int, s api.Set) api.Box {
	b := api.Box{allOf(), allOf(), allOf(), allOf()}
	b[attr] = s
	return b
}

// apart are n boxes of which none lies in another one.
func apart(n int) api.Filter {
	var f api.Filter
	for i := range n {
		f = append(f, with(i%4, ints(r(10*i, 10*i))))
	}
	return f
}

func equalSets(a, b api.Set) bool {
	return a.Absent == b.Absent && a.Co == b.Co && slices.Equal(a.Ints, b.Ints) && slices.Equal(a.Strs, b.Strs)
}

func equalBoxes(a, b api.Box) bool {
	for attr := range a {
		if !equalSets(a[attr], b[attr]) {
			return false
		}
	}
	return true
}

func equal(a, b api.Filter) bool { return slices.EqualFunc(a, b, equalBoxes) }

// The document's words of bytes once more, in another form than the program has them: a number's digits
// to the base 128 are those to the base 2, seven by seven.
func sevens(text string) string {
	text = strings.Repeat("0", (7-len(text)%7)%7) + text
	out := ""
	for ; text != ""; text = text[7:] {
		top := "1"
		if len(text) == 7 {
			top = "0"
		}
		c, _ := strconv.ParseUint(top+text[:7], 2, 8)
		out += string([]byte{byte(c)})
	}
	return out
}

func unsigned(n uint64) string { return sevens(strconv.FormatUint(n, 2)) }

func signed(n int) string {
	m := big.NewInt(int64(n))
	if n < 0 {
		m.Not(m) // -1 - n
		return sevens(m.Text(2) + "1")
	}
	return sevens(strings.TrimLeft(m.Text(2), "0") + "0")
}

func counted(s string) string { return unsigned(uint64(len(s))) + s }

// setBytes are those of any set, right or not; so with filterBytes.
func setBytes(s api.Set) string {
	first := "\x00"
	switch {
	case s.Absent && s.Co:
		first = "\x03"
	case s.Absent:
		first = "\x01"
	case s.Co:
		first = "\x02"
	}
	out := first + unsigned(uint64(len(s.Ints)))
	for _, x := range s.Ints {
		out += signed(x.Lo) + signed(x.Hi)
	}
	out += unsigned(uint64(len(s.Strs)))
	for _, text := range s.Strs {
		out += counted(text)
	}
	return out
}

func filterBytes(f api.Filter) string {
	out := []string{unsigned(uint64(len(f)))}
	for _, b := range f {
		for _, s := range b {
			out = append(out, setBytes(s))
		}
	}
	return strings.Join(out, "")
}

// valueBytes are those of a value that may be.
func valueBytes(v api.Value) string {
	switch v.Kind {
	case api.Int:
		return "\x01" + signed(v.N)
	case api.Str:
		return "\x02" + counted(v.S)
	}
	return "\x00"
}

func eventBytes(e api.Event) string {
	out := ""
	for _, v := range e {
		out += valueBytes(v)
	}
	return out
}

// toldSet is a set and its bytes, told by hand.
type toldSet struct {
	s     api.Set
	bytes string
}

// someSets are right, small, and not empty.
func someSets() []toldSet {
	low, high := math.MinInt, math.MaxInt
	return []toldSet{
		{allOf(), allBytes},
		{api.Set{Absent: true}, "\x01\x00\x00"},
		{others(), "\x02\x00\x00"},
		{api.Set{Absent: true, Co: true}, "\x03\x00\x00"},
		{ints(r(0, 0)), "\x00\x01\x00\x00\x00"},
		{ints(r(-1, -1)), "\x00\x01\x01\x01\x00"},
		{ints(r(1, 5)), "\x00\x01\x02\x0a\x00"},
		{ints(r(-64, 63)), "\x00\x01\x7f\x7e\x00"},
		{ints(r(-65, 64)), "\x00\x01\x81\x01\x81\x00\x00"},
		{ints(r(150, 8191)), "\x00\x01\x82\x2c\xff\x7e\x00"},
		{ints(r(low, low)), "\x00\x01\x81\xff\xff\xff\xff\xff\xff\xff\xff\x7f\x81\xff\xff\xff\xff\xff\xff\xff\xff\x7f\x00"},
		{ints(r(high, high)), "\x00\x01\x81\xff\xff\xff\xff\xff\xff\xff\xff\x7e\x81\xff\xff\xff\xff\xff\xff\xff\xff\x7e\x00"},
		{ints(r(low, -2), r(0, 0), r(2, high)), "\x00\x03\x81\xff\xff\xff\xff\xff\xff\xff\xff\x7f\x03\x00\x00\x04\x81\xff\xff\xff\xff\xff\xff\xff\xff\x7e\x00"},
		{ints(r(1, 1), r(3, 3), r(5, 5), r(7, 7), r(9, 9), r(11, 12)), "\x00\x06\x02\x02\x06\x06\x0a\x0a\x0e\x0e\x12\x12\x16\x18\x00"},
		{strs(""), "\x00\x00\x01\x00"},
		{strs("x"), "\x00\x00\x01\x01x"},
		{strs("12345678"), "\x00\x00\x01\x0812345678"},
		{strs("\x00\x7f\x80\xff", "\x01"), "\x00\x00\x02\x04\x00\x7f\x80\xff\x01\x01"},
		{strs("", "a", "aa", "ab", "b", "\xff"), "\x00\x00\x06\x00\x01a\x02aa\x02ab\x01b\x01\xff"},
		{others("x", "yz"), "\x02\x00\x02\x01x\x02yz"},
		{others("", "a", "aa", "ab", "b", "\xff"), "\x02\x00\x06\x00\x01a\x02aa\x02ab\x01b\x01\xff"},
		{api.Set{Absent: true, Ints: []api.Range{r(1, 2)}, Strs: []string{"ab"}}, "\x01\x01\x02\x04\x01\x02ab"},
		{api.Set{Absent: true, Ints: []api.Range{r(-3, -3), r(0, 9)}, Co: true, Strs: []string{"", "z"}}, "\x03\x02\x05\x05\x00\x12\x02\x00\x01z"},
	}
}

// told is a filter and its bytes.
type told struct {
	f     api.Filter
	bytes string
}

// boxOf lays a box of sets at those places.
func boxOf(sets []toldSet, at ...int) (b api.Box, bytes string) {
	for attr := range b {
		s := sets[at[attr]%len(sets)]
		b[attr] = s.s
		bytes += s.bytes
	}
	return b, bytes
}

// someFilters are right filters of up to four boxes, each box with other sets.
func someFilters() []told {
	sets := someSets()
	out := []told{{nil, "\x00"}}
	for i, s := range sets {
		for attr := range api.Attrs {
			bytes := "\x01" + strings.Repeat(allBytes, attr) + s.bytes + strings.Repeat(allBytes, api.Attrs-1-attr)
			out = append(out, told{api.Filter{with(attr, s.s)}, bytes})
		}
		b, bytes := boxOf(sets, i, i+1, i+7, i+12)
		out = append(out, told{api.Filter{b}, "\x01" + bytes})
	}
	// Unlike kinds of values in one attribute keep boxes apart.
	kinds := [][]toldSet{sets[1:2], sets[4:14], sets[14:19], sets[2:3]}
	for i := range 60 {
		for n := 2; n <= 4; n++ {
			x := told{bytes: string([]byte{byte(n)})}
			for k := range n {
				b, bytes := boxOf(sets, i+k, i+3*k, i+5*k, i+7*k+1)
				own := kinds[(i+k)%4][i%len(kinds[(i+k)%4])]
				b[0] = own.s
				x.f = append(x.f, b)
				x.bytes += own.bytes + bytes[len(sets[(i+k)%len(sets)].bytes):]
			}
			out = append(out, x)
		}
	}
	return out
}

// toldEvent is an event and its bytes.
type toldEvent struct {
	e     api.Event
	bytes string
}

// values are values that may be, and their bytes, told by hand; the first one is absent.
func values() []struct {
	v     api.Value
	bytes string
} {
	return []struct {
		v     api.Value
		bytes string
	}{
		{api.Value{}, "\x00"}, {number(0), "\x01\x00"}, {number(1), "\x01\x02"}, {number(-1), "\x01\x01"}, {number(150), "\x01\x82\x2c"},
		{number(math.MaxInt), "\x01\x81\xff\xff\xff\xff\xff\xff\xff\xff\x7e"}, {number(math.MinInt), "\x01\x81\xff\xff\xff\xff\xff\xff\xff\xff\x7f"},
		{str(""), "\x02\x00"}, {str("q"), "\x02\x01q"}, {str("12345678"), "\x02\x0812345678"}, {str("\x00\x01\x02\x7f\x80\xff"), "\x02\x06\x00\x01\x02\x7f\x80\xff"},
	}
}

// someEvents: all events of these values.
func someEvents() []toldEvent {
	var out []toldEvent
	list := values()
	n := len(list)
	for i := range n * n * n * n {
		var x toldEvent
		for attr, k := range []int{i / n / n / n, i / n / n % n, i / n % n, i % n} {
			x.e[attr] = list[k].v
			x.bytes += list[k].bytes
		}
		out = append(out, x)
	}
	return out
}

// dice is a row of numbers, always the same one.
type dice uint64

func (d *dice) roll(n int) int {
	*d = *d*6364136223846793005 + 1442695040888963407
	return int(uint64(*d)>>33) % n
}
