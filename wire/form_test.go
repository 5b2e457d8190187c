package wire_test

import (
	"regexp"
	"strconv"
	"strings"
	"testing"

	"arbour/api"
	"arbour/codec"
	"arbour/dnf"
	"arbour/wire"
)

// The document's words once more, in another form than the program has them: patterns, over bytes that
// are written as runes.
const (
	aNumber = `(?:[\x00-\x7f]|[\x81-\x{ff}][\x80-\x{ff}]{0,7}[\x00-\x7f]|\x81[\x80-\x{ff}]{8}[\x00-\x7f])`
	aString = `(?:\x00|\x01.|\x02.{2}|\x03.{3}|\x04.{4}|\x05.{5}|\x06.{6}|\x07.{7}|\x08.{8})`
	aValue  = `(\x00|\x01` + aNumber + `|\x02` + aString + `)`
)

var (
	oneNumber = regexp.MustCompile(`(?s)` + aNumber)
	oneString = regexp.MustCompile(`(?s)` + aString)
	oneEvent  = regexp.MustCompile(`(?s)^` + strings.Repeat(aValue, 4))
	oneSet    = regexp.MustCompile(`(?s)^([\x00-\x03])` + upToSix(aNumber+aNumber) + upToSix(aString))
)

// upToSix is the pattern of a count up to 6, and as many things.
func upToSix(thing string) string {
	ways := []string{`\x00()`}
	for n := 1; n <= 6; n++ {
		ways = append(ways, `\x0`+strconv.Itoa(n)+`((?:`+thing+`){`+strconv.Itoa(n)+`})`)
	}
	return "(?:" + strings.Join(ways, "|") + ")"
}

func runesOf(s string) string {
	var out []rune
	for i := range len(s) {
		out = append(out, rune(s[i]))
	}
	return string(out)
}

func bytesOf(runes string) string {
	var out []byte
	for _, c := range runes {
		out = append(out, byte(c))
	}
	return string(out)
}

// numberOf answers the number with a sign whose bytes, as runes, these are.
func numberOf(runes string) int {
	text := ""
	for _, c := range runes {
		digit := strconv.FormatInt(int64(c)%128, 2)
		text += strings.Repeat("0", 7-len(digit)) + digit
	}
	negative := strings.HasSuffix(text, "1")
	n, _ := strconv.ParseUint(text[:len(text)-1], 2, 63)
	if negative {
		return -1 - int(n)
	}
	return int(n)
}

func valueOf(runes string) api.Value {
	switch runes[0] {
	case 1:
		return number(numberOf(runes[1:]))
	case 2:
		return str(bytesOf(runes[2:]))
	}
	return api.Value{}
}

// eventOf answers the event that bytes begin with, and how many they are.
func eventOf(s string) (e api.Event, long int, ok bool) {
	m := oneEvent.FindStringSubmatch(runesOf(s))
	if m == nil {
		return e, 0, false
	}
	for attr := range e {
		e[attr] = valueOf(m[attr+1])
	}
	return e, len([]rune(m[0])), true
}

// setOf answers the set that bytes, as runes, begin with, right or not, and these.
func setOf(runes string) (s api.Set, own string, ok bool) {
	m := oneSet.FindStringSubmatch(runes)
	if m == nil {
		return s, "", false
	}
	s.Absent, s.Co = m[1] == "\x01" || m[1] == "\x03", m[1] == "\x02" || m[1] == "\x03"
	numbers := oneNumber.FindAllString(strings.Join(m[2:9], ""), -1)
	for i := 0; i < len(numbers); i += 2 {
		s.Ints = append(s.Ints, r(numberOf(numbers[i]), numberOf(numbers[i+1])))
	}
	for _, text := range oneString.FindAllString(strings.Join(m[9:], ""), -1) {
		s.Strs = append(s.Strs, bytesOf(text)[1:])
	}
	return s, m[0], true
}

// filterOfBytes answers the filter of up to four boxes of small sets, right or not, that bytes begin with, and how many they are.
func filterOfBytes(s string) (f api.Filter, long int, ok bool) {
	if s == "" || s[0] > 4 {
		return nil, 0, false
	}
	rest := runesOf(s[1:])
	for range s[0] {
		var b api.Box
		for attr := range b {
			one, own, ok := setOf(rest)
			if !ok {
				return nil, 0, false
			}
			b[attr], rest = one, rest[len(own):]
		}
		f = append(f, b)
	}
	return f, len(s) - len([]rune(rest)), true
}

// checkEvent holds what is made of any bytes against the second form.
func checkEvent(t *testing.T, s string) {
	t.Helper()
	e, long, ok := eventOf(s)
	want, err := e, api.OK
	if !ok || long < len(s) {
		want, err = api.Event{}, api.ErrForm
	}
	if got, wrong := wire.ReadEvent(s); got != want || wrong != err {
		t.Fatalf("ReadEvent(%q): %v, %d, not %v, %d", s, got, wrong, want, err)
	}
	reader := codec.Read(s)
	got := wire.TakeEvent(reader)
	if !ok {
		e, long = api.Event{}, len(s)
	}
	if got != e || ok != (reader.Err() == api.OK) || reader.Left() != len(s)-long {
		t.Fatalf("TakeEvent of %q: %v, not %v, %d, and %d bytes left", s, got, e, reader.Err(), reader.Left())
	}
}

func checkFilter(t *testing.T, s string) {
	t.Helper()
	f, long, read := filterOfBytes(s)
	ok := read && dnf.Right(f)
	want, err := f, api.OK
	if !ok || long < len(s) {
		want, err = nil, api.ErrForm
	}
	if got, wrong := wire.ReadFilter(s); !equal(got, want) || wrong != err {
		t.Fatalf("ReadFilter(%q): %v, %d, not %v, %d", s, got, wrong, want, err)
	}
	reader := codec.Read(s)
	got := wire.TakeFilter(reader)
	if !ok {
		f, long = nil, len(s)
	}
	if !equal(got, f) || ok != (reader.Err() == api.OK) || reader.Left() != len(s)-long {
		t.Fatalf("TakeFilter of %q: %v, not %v, %d, and %d bytes left", s, got, f, reader.Err(), reader.Left())
	}
	if read && !ok && reader.Err() != api.ErrForm {
		t.Fatalf("TakeFilter of %q: %d, though nothing is wrong but that it isn't right", s, reader.Err())
	}
}

// inRows goes through all rows of at most that many parts.
func inRows(parts []string, most int, see func(string)) {
	see("")
	if most == 0 {
		return
	}
	for _, p := range parts {
		inRows(parts, most-1, func(rest string) { see(p + rest) })
	}
}

// P8.1 to P8.3: all short rows of bytes as an event.
func TestAllShortBytesAsEvents(t *testing.T) {
	inRows([]string{"\x00", "\x01", "\x02", "\x03", "\x08", "\x80", "\x81"}, 6, func(s string) { checkEvent(t, s) })
}

// P8.1 to P8.3: all short rows of what may stand in a set's bytes, as each set of a filter.
func TestAllShortBytesAsSets(t *testing.T) {
	other := "\x02\x00\x00"
	inRows([]string{"\x00", "\x01", "\x02", "\x03", "\x04", "\x06", "\x80", "\x81"}, 5, func(s string) {
		attr := len(s) % 4
		checkFilter(t, "\x01"+strings.Repeat(other, attr)+s+strings.Repeat(other, 3-attr))
	})
}

// P8.1 to P8.3: filters of two and three boxes out of a few, right ones and others.
func TestFiltersOfFewBoxes(t *testing.T) {
	var boxes []string
	sets := []string{"\x00\x00\x00", "\x01\x00\x00", "\x03\x00\x00", "\x00\x01\x02\x06\x00", "\x00\x01\x04\x02\x00", "\x02\x00\x01\x01x"}
	for _, a := range sets {
		for _, b := range sets {
			boxes = append(boxes, a+"\x02\x00\x00"+b+"\x03\x00\x00")
		}
	}
	for _, a := range boxes {
		for i, b := range boxes {
			checkFilter(t, "\x01"+a+b)
			checkFilter(t, "\x02"+a+b)
			checkFilter(t, "\x03"+a+b+boxes[(5*i+7)%len(boxes)])
			checkFilter(t, "\x04"+b+a+boxes[i/2]+boxes[(7*i+11)%len(boxes)])
		}
	}
}

// spoiled goes through all rows of bytes that are others but for one byte, or but for two neighbours' order.
func spoiled(s string, see func(string)) {
	marks := "\x00\x01\x02\x03\x04\x05\x06\x07\x08\x09\x0a\x7f\x80\x81\xfe\xff"
	for i := range len(s) + 1 {
		for k := range len(marks) {
			see(s[:i] + marks[k:k+1] + s[i:])
		}
		if i == len(s) {
			return
		}
		see(s[:i] + s[i+1:])
		see(s[:i] + string([]byte{s[i] + 1}) + s[i+1:])
		see(s[:i] + string([]byte{s[i] - 1}) + s[i+1:])
		for k := range len(marks) {
			see(s[:i] + marks[k:k+1] + s[i+1:])
		}
		if i+1 < len(s) {
			see(s[:i] + s[i+1:i+2] + s[i:i+1] + s[i+2:])
		}
	}
}

// P8.1 to P8.3: bytes that are nearly those of something.
func TestSpoiledBytes(t *testing.T) {
	sets := someSets()
	for i := range sets {
		_, bytes := boxOf([]toldSet{sets[i], {others(), "\x02\x00\x00"}}, i, i+1, i+1, i+1)
		spoiled("\x01"+bytes, func(s string) { checkFilter(t, s) })
	}
	for i, c := range someFilters() {
		if i%41 == 0 && len(c.bytes) < 300 {
			spoiled(c.bytes, func(s string) { checkFilter(t, s) })
		}
	}
	for i, c := range someEvents() {
		if i%331 == 0 {
			spoiled(c.bytes, func(s string) { checkEvent(t, s) })
		}
	}
}

// P8.1 to P8.3: bytes laid by chance, out of small numbers, of any bytes, and of pieces.
func TestBytesByChance(t *testing.T) {
	pieces := []string{"\x00", "\x01", "\x02", "\x00\x00", "\x01\x02\x04", "\x01\x01x", "\x02\x08abcdefgh", "\x03\x00\x00", "\x02\x00\x00", "\x81\x00", "\x80", allBytes, "\x00\x01\x02\x04\x00", "\x01\x00\x01\x01y"}
	d := dice(5)
	for i := range 60000 {
		s := ""
		for range d.roll(30) {
			switch i % 3 {
			case 0:
				s += string([]byte{byte(d.roll(256))})
			case 1:
				s += string([]byte{byte(d.roll(4))})
			default:
				s += pieces[d.roll(len(pieces))]
			}
		}
		checkEvent(t, s)
		checkFilter(t, s)
		checkFilter(t, "\x01"+s)
	}
}

// P8.1: more bytes than any filter or event has are none, and each call ends.
func TestManyBytesAlike(t *testing.T) {
	for b := range 256 {
		alike := strings.Repeat(string([]byte{byte(b)}), 1<<16)
		for start := range 5 {
			s := string([]byte{byte(start)}) + alike
			if f, err := wire.ReadFilter(s); f != nil || err != api.ErrForm {
				t.Errorf("ReadFilter of %d and many of %d: %v, %d", start, b, f, err)
			}
			if e, err := wire.ReadEvent(s); e != (api.Event{}) || err != api.ErrForm {
				t.Errorf("ReadEvent of %d and many of %d: %v, %d", start, b, e, err)
			}
		}
	}
}
