package codec_test

import (
	"math"
	"math/big"
	"strings"
	"testing"

	"arbour/api"
	"arbour/codec"
)

// digits: bytes that begin with first, go on with that many digits of 0, and end with last.
func digits(first byte, others int, last string) string {
	return string([]byte{first}) + strings.Repeat("\x80", others) + last
}

// stopped: checks that no byte is left, and that all that is read is 0, or empty.
func stopped(t *testing.T, name string, r *codec.Reader, want api.Errno) {
	t.Helper()
	for range 2 {
		if e := r.Err(); e != want {
			t.Errorf("%s: Err is %d, not %d", name, e, want)
		}
		if n := r.Left(); n != 0 {
			t.Errorf("%s: %d bytes are left", name, n)
		}
		if b := r.Byte(); b != 0 {
			t.Errorf("%s: Byte is %d", name, b)
		}
		if n := r.Uint(); n != 0 {
			t.Errorf("%s: Uint is %d", name, n)
		}
		if n := r.Int(); n != 0 {
			t.Errorf("%s: Int is %d", name, n)
		}
		for _, most := range []int{math.MinInt, -1, 0, 1, math.MaxInt} {
			if s := r.Str(most); s != "" {
				t.Errorf("%s: Str is %q", name, s)
			}
		}
		r.Fail(api.ErrArg)
		r.Fail(api.OK)
	}
}

// numberByHand: what the document says of the number at the beginning of s, with numbers that have no end.
func numberByHand(s string) (n uint64, long int, e api.Errno) {
	limit := new(big.Int).Lsh(big.NewInt(1), 64)
	sum := new(big.Int)
	for i := range len(s) {
		if i == 0 && s[i] == 128 {
			return 0, 0, api.ErrForm
		}
		sum.Mul(sum, big.NewInt(128))
		sum.Add(sum, big.NewInt(int64(s[i]&127)))
		if sum.Cmp(limit) >= 0 {
			return 0, 0, api.ErrForm
		}
		if s[i] < 128 {
			return sum.Uint64(), i + 1, api.OK
		}
	}
	return 0, 0, api.ErrTorn
}

// checkNumber: holds Uint, Int and Str of the bytes against the document's words.
func checkNumber(t *testing.T, s string) {
	t.Helper()
	n, long, e := numberByHand(s)
	r := codec.Read(s)
	if got := r.Uint(); got != n || r.Err() != e {
		t.Errorf("Uint of %x: %d, %d, not %d, %d", s, got, r.Err(), n, e)
	}
	signed := int(n >> 1)
	if n&1 == 1 {
		signed = -1 - signed
	}
	q := codec.Read(s)
	if got := q.Int(); got != signed || q.Err() != e {
		t.Errorf("Int of %x: %d, %d, not %d, %d", s, got, q.Err(), signed, e)
	}
	if e != api.OK {
		text := codec.Read(s)
		if got := text.Str(math.MaxInt); got != "" || text.Err() != e {
			t.Errorf("Str of %x: %q, %d, not %d", s, got, text.Err(), e)
		}
		stopped(t, s, r, e)
		stopped(t, s, q, e)
		stopped(t, s, text, e)
		return
	}
	if left := len(s) - long; r.Left() != left || q.Left() != left {
		t.Errorf("%x: %d and %d bytes are left, not %d", s, r.Left(), q.Left(), left)
	}
}

// P2.2
func TestByte(t *testing.T) {
	s := "a\x00\xff\x80"
	r := codec.Read(s)
	for i := range len(s) {
		if left := r.Left(); left != len(s)-i {
			t.Errorf("%d bytes are left behind %d", left, i)
		}
		if b := r.Byte(); b != s[i] || r.Err() != api.OK {
			t.Errorf("byte %d: %d, %d", i, b, r.Err())
		}
	}
	if r.Left() != 0 || r.Err() != api.OK {
		t.Errorf("at the end: %d left, %d", r.Left(), r.Err())
	}
	if b := r.Byte(); b != 0 {
		t.Errorf("behind the end: %d", b)
	}
	stopped(t, "behind the end", r, api.ErrTorn)
	empty := codec.Read("")
	if empty.Left() != 0 || empty.Err() != api.OK || empty.Byte() != 0 {
		t.Error("nothing at all")
	}
	stopped(t, "nothing at all", empty, api.ErrTorn)
}

// P2.2
func TestNumbersAreRead(t *testing.T) {
	for _, n := range edges() {
		for _, behind := range []string{"", "\x00", "\x80", "z\xff"} {
			r := codec.Read(codec.Uint(n) + behind)
			if got := r.Uint(); got != n || r.Left() != len(behind) || r.Err() != api.OK {
				t.Errorf("%d: %d, %d left, %d", n, got, r.Left(), r.Err())
			}
		}
	}
	for _, n := range signedEdges() {
		for _, behind := range []string{"", "\x00", "\x80", "z\xff"} {
			r := codec.Read(codec.Int(n) + behind)
			if got := r.Int(); got != n || r.Left() != len(behind) || r.Err() != api.OK {
				t.Errorf("%d: %d, %d left, %d", n, got, r.Left(), r.Err())
			}
		}
	}
}

// P2.2
func TestWrongNumbers(t *testing.T) {
	most := "\x81\xff\xff\xff\xff\xff\xff\xff\xff"
	for _, c := range []struct {
		bytes string
		want  api.Errno
	}{
		{"", api.ErrTorn},
		{"\x80", api.ErrForm},
		{"\x80\x00", api.ErrForm},
		{"\x80\x01", api.ErrForm},
		{"\x80\x80", api.ErrForm},
		{"\x81", api.ErrTorn},
		{"\x82", api.ErrTorn},
		{"\x81\x80", api.ErrTorn},
		{"\xff\xff\xff", api.ErrTorn},
		{most, api.ErrTorn},
		{most + "\xff", api.ErrTorn},
		{most + "\xff\x80", api.ErrForm},
		{most + "\xff\x00", api.ErrForm},
		{digits(0x81, 9, ""), api.ErrTorn},
		{digits(0x81, 9, "\x00"), api.ErrForm},
		{digits(0x82, 8, ""), api.ErrTorn},
		{digits(0x82, 8, "\x00"), api.ErrForm},
		{digits(0x82, 8, "\x80"), api.ErrForm},
		{digits(0xff, 8, ""), api.ErrTorn},
		{digits(0xff, 8, "\x80"), api.ErrForm},
		{strings.Repeat("\xff", 100), api.ErrForm},
	} {
		n, _, e := numberByHand(c.bytes)
		if n != 0 || e != c.want {
			t.Errorf("by hand %x: %d, %d, not %d", c.bytes, n, e, c.want)
		}
		checkNumber(t, c.bytes)
	}
}

// P2.2
func TestNumbersOfAllShortBytes(t *testing.T) {
	letters := []byte{0x00, 0x01, 0x2c, 0x7f, 0x80, 0x81, 0xff}
	var all func(s string, more int)
	all = func(s string, more int) {
		checkNumber(t, s)
		if more == 0 {
			return
		}
		for _, b := range letters {
			all(s+string([]byte{b}), more-1)
		}
	}
	all("", 4)
	for b := range 256 {
		for c := range 256 {
			checkNumber(t, string([]byte{byte(b), byte(c), 5}))
		}
	}
}

// P2.2
func TestNumbersOfLongBytes(t *testing.T) {
	for _, first := range []byte{0x80, 0x81, 0x82, 0x83, 0xc0, 0xff} {
		for _, middle := range []string{"\x80", "\x81", "\xfe", "\xff"} {
			for long := 6; long < 12; long++ {
				begin := string([]byte{first}) + strings.Repeat(middle, long)
				for _, end := range []string{"", "\x00", "\x01", "\x7f", "\x80", "\x80\x00", "\xff\x7f", "\x00\x80"} {
					checkNumber(t, begin+end)
				}
			}
		}
	}
}

// P2.2
func TestTextsAreRead(t *testing.T) {
	for _, s := range []string{"", "a", "ab", "\x00\xff", strings.Repeat("y", 127), strings.Repeat("y", 128), strings.Repeat("y", 300)} {
		for _, most := range []int{len(s), len(s) + 1, math.MaxInt} {
			r := codec.Read(codec.Str(s) + "zz")
			if got := r.Str(most); got != s || r.Err() != api.OK || r.Left() != 2 {
				t.Errorf("%q, at most %d: %q, %d, %d left", s, most, got, r.Err(), r.Left())
			}
		}
		for _, most := range []int{len(s) - 1, 0, -1, math.MinInt} {
			r := codec.Read(codec.Str(s) + "zz")
			got := r.Str(most)
			if len(s) == 0 {
				if got != "" || r.Err() != api.OK || r.Left() != 2 {
					t.Errorf("the empty text, at most %d: %q, %d, %d left", most, got, r.Err(), r.Left())
				}
				continue
			}
			if got != "" {
				t.Errorf("%q, at most %d: %q", s, most, got)
			}
			stopped(t, "too long", r, api.ErrLong)
		}
	}
}

// P2.2
func TestWrongTexts(t *testing.T) {
	for _, c := range []struct {
		bytes string
		most  int
		want  api.Errno
	}{
		{"", 5, api.ErrTorn},
		{"\x80\x00", 0, api.ErrForm},
		{"\x82", 0, api.ErrTorn},
		{"\x01", 1, api.ErrTorn},
		{"\x03ab", 3, api.ErrTorn},
		{"\x03ab", 9, api.ErrTorn},
		{"\x03ab", 2, api.ErrLong},
		{"\x03abc", 2, api.ErrLong},
		{"\x03", -1, api.ErrLong},
		{"\x01", math.MinInt, api.ErrLong},
		{codec.Uint(1<<63-1) + "abc", math.MaxInt, api.ErrTorn},
		{codec.Uint(1<<63) + "abc", math.MaxInt, api.ErrLong},
		{codec.Uint(math.MaxUint64) + "abc", math.MaxInt, api.ErrLong},
		{codec.Uint(math.MaxUint64) + "abc", -1, api.ErrLong},
		{digits(0x82, 8, "\x00abc"), math.MaxInt, api.ErrForm},
	} {
		r := codec.Read(c.bytes)
		if got := r.Str(c.most); got != "" {
			t.Errorf("%x, at most %d: %q", c.bytes, c.most, got)
		}
		stopped(t, c.bytes, r, c.want)
	}
}

// P2.3
func TestFail(t *testing.T) {
	for _, e := range []api.Errno{api.ErrArg, api.ErrForm, api.ErrTorn, api.ErrNil, api.ErrEmpty, 99, -1} {
		for _, s := range []string{"", "abc", "\x01\x02\x03"} {
			r := codec.Read(s)
			r.Fail(api.OK)
			if r.Err() != api.OK || r.Left() != len(s) {
				t.Errorf("Fail with OK: %d, %d left", r.Err(), r.Left())
			}
			r.Fail(e)
			r.Fail(api.ErrBig)
			stopped(t, s, r, e)
		}
	}
	r := codec.Read("abc")
	r.Byte()
	r.Fail(api.OK)
	if r.Left() != 2 || r.Byte() != 'b' {
		t.Error("Fail with OK took something away")
	}
	r.Fail(api.ErrOnce)
	stopped(t, "in the middle", r, api.ErrOnce)
}

// P2.3
func TestFirstErrorStays(t *testing.T) {
	r := codec.Read("\x05\x03abcdef")
	if r.Uint() != 5 || r.Str(2) != "" {
		t.Error("a number and a text that is too long")
	}
	r.Fail(api.ErrForm)
	stopped(t, "behind a text that is too long", r, api.ErrLong)
}

// P2.3
func TestNilReader(t *testing.T) {
	var r *codec.Reader
	stopped(t, "nil", r, api.ErrNil)
}

// P2.3
func TestReadersAreApart(t *testing.T) {
	s := "\x01\x02\x03"
	a, b := codec.Read(s), codec.Read(s)
	a.Fail(api.ErrForm)
	if b.Err() != api.OK || b.Left() != 3 || b.Byte() != 1 {
		t.Error("another reader of the same bytes has changed")
	}
}

// P2.4
func TestWhatWasWrittenInARowIsReadInThatRow(t *testing.T) {
	texts := []string{"", "a", "\x80\x80", strings.Repeat("t", 200)}
	var all strings.Builder
	for i, n := range signedEdges() {
		all.WriteString(codec.Uint(uint64(n)))
		all.WriteString(codec.Int(n))
		all.WriteString(codec.Str(texts[i%len(texts)]))
	}
	r := codec.Read(all.String())
	for i, n := range signedEdges() {
		if got := r.Uint(); got != uint64(n) {
			t.Fatalf("%d: %d", uint64(n), got)
		}
		if got := r.Int(); got != n {
			t.Fatalf("%d: %d", n, got)
		}
		if got, want := r.Str(200), texts[i%len(texts)]; got != want {
			t.Fatalf("%q: %q", want, got)
		}
	}
	if r.Left() != 0 || r.Err() != api.OK {
		t.Errorf("at the end: %d left, %d", r.Left(), r.Err())
	}
}
