package text_test

import (
	"strings"
	"testing"

	"arbour/api"
	"arbour/text"
)

// greatAtom is an atom whose text has 165 bytes.
func greatAtom() told {
	var s toldSet
	s.text = "["
	for i := range 6 {
		last := "123456"[i : i+1]
		s.s.Strs = append(s.s.Strs, strings.Repeat("\x00", 7)+"\x01\x02\x03\x04\x05\x06"[i:i+1])
		s.text += "'" + strings.Repeat(`\00`, 7) + `\0` + last + "' "
	}
	s.text = strings.TrimSuffix(s.text, " ") + "]"
	return tellAtom(0, s)
}

// smallAtom is an atom whose text has 6 to 14 bytes.
func smallAtom(long int) told {
	xs := strings.Repeat("x", long-6)
	return tellAtom(1, toldSet{strs(xs), "['" + xs + "']"})
}

// longExpr is an expression whose text has that many bytes, 900 at least.
func longExpr(long int, tell func(...told) told) told {
	list := []told{greatAtom(), greatAtom(), greatAtom(), greatAtom(), greatAtom()}
	for left := long - len(tell(list...).text); left > 0; {
		next := min(15, left)
		if left-next > 0 && left-next < 7 {
			next = left - 7
		}
		list = append(list, smallAtom(next-1))
		left -= next
	}
	return tell(list...)
}

// P7.1: texts of just 1024 bytes, of one less, and of more.
func TestLongTexts(t *testing.T) {
	notAll := func(list ...told) told { return tellNot(tellOr(list...)) }
	for i, tell := range []func(...told) told{tellAnd, tellOr, notAll} {
		for long := 950; long < 1100; long++ {
			c := longExpr(long, tell)
			if len(c.text) != long || !c.mayBe() {
				t.Fatalf("%d: of %d bytes, not %d", i, len(c.text), long)
			}
			s, err := text.Print(c.x)
			x, wrong := text.Parse(c.text)
			if long <= 1024 && (s != c.text || err != api.OK || !equal(x, c.x) || wrong != api.OK) {
				t.Errorf("%d, of %d bytes: %q, %d; %v, %d", i, long, s, err, x, wrong)
			}
			if long > 1024 && (s != "" || err != api.ErrLong || !equal(x, api.Expr{}) || wrong != api.ErrLong) {
				t.Errorf("%d, of %d bytes: %q, %d; %v, %d", i, long, s, err, x, wrong)
			}
		}
	}
}

// P7.1: whether a text is too long is asked first.
func TestLongWrongTexts(t *testing.T) {
	for _, c := range []struct {
		s    string
		want api.Errno
	}{
		{strings.Repeat("!", 1024), api.ErrForm}, {strings.Repeat("!", 1025), api.ErrLong},
		{strings.Repeat("&(", 512), api.ErrForm}, {strings.Repeat("&(", 513), api.ErrLong},
		{strings.Repeat("&(", 341) + strings.Repeat(")", 341), api.ErrForm}, {strings.Repeat("&(", 342) + strings.Repeat(")", 342), api.ErrLong},
		{strings.Repeat("!", 1019) + "a:[1]", api.ErrForm}, {strings.Repeat("!", 1020) + "a:[1]", api.ErrLong},
		{"a:[" + strings.Repeat("1", 1020) + "]", api.ErrForm}, {"a:[" + strings.Repeat("1", 1021) + "]", api.ErrLong},
		{"a:['" + strings.Repeat("x", 1018) + "']", api.ErrForm}, {"a:['" + strings.Repeat("x", 1019) + "']", api.ErrLong},
		{"a:[1]" + strings.Repeat(" ", 1019), api.ErrForm}, {"a:[1]" + strings.Repeat(" ", 1020), api.ErrLong},
		{string(make([]byte, 1024)), api.ErrForm}, {string(make([]byte, 1025)), api.ErrLong}, {strings.Repeat("&() ", 1<<20), api.ErrLong},
		{longExpr(1023, tellAnd).text + ")", api.ErrForm}, {longExpr(1024, tellAnd).text + ")", api.ErrLong}, {longExpr(1025, tellAnd).text[:1024], api.ErrForm},
	} {
		if x, err := text.Parse(c.s); err != c.want || !equal(x, api.Expr{}) {
			t.Errorf("Parse of %d bytes, %.20q..: %v, %d", len(c.s), c.s, x, err)
		}
	}
}

// P7.1: whether an expression may be is asked first.
func TestPrintOfLongWrongExprs(t *testing.T) {
	var list []api.Expr
	for range 39 {
		list = append(list, greatAtom().x)
	}
	if s, err := text.Print(and(list...)); s != "" || err != api.ErrLong {
		t.Errorf("Print of 40 parts: %q, %d", s, err)
	}
	list = append(list, greatAtom().x)
	if s, err := text.Print(and(list...)); s != "" || err != api.ErrArg {
		t.Errorf("Print of 41 parts: %q, %d", s, err)
	}
	if s, err := text.Print(and(append(list[:38], api.Expr{})...)); s != "" || err != api.ErrArg {
		t.Errorf("Print of a wrong part behind long ones: %q, %d", s, err)
	}
}

// P7.1: 40 parts and a depth of 8 are read, and no more.
func TestParseOfLargeExprs(t *testing.T) {
	a := tellAtom(0, toldSet{api.Set{}, "[]"})
	for i, c := range []told{
		chain(8), chain(9), chain(40), nots(8), nots(9), nots(41), tellAnd(atoms(39)...), tellAnd(atoms(40)...), tellOr(atoms(39)...), tellOr(atoms(40)...),
		tellNot(tellOr(atoms(38)...)), tellNot(tellOr(atoms(39)...)), tellAnd(tellAnd(atoms(19)...), tellOr(atoms(18)...)), tellAnd(tellAnd(atoms(19)...), tellOr(atoms(19)...)),
		tellAnd(a, chain(7)), tellAnd(a, chain(8)), tellAnd(chain(7), a), tellAnd(chain(8), a), tellAnd(atoms(100)...),
	} {
		x, err := text.Parse(c.text)
		if c.mayBe() && (!equal(x, c.x) || err != api.OK) || !c.mayBe() && (!equal(x, api.Expr{}) || err != api.ErrForm) {
			t.Errorf("%d: Parse(%q): %v, %d", i, c.text, x, err)
		}
		s, err := text.Print(c.x)
		if c.mayBe() && (s != c.text || err != api.OK) || !c.mayBe() && (s != "" || err != api.ErrArg) {
			t.Errorf("%d: Print(%v): %q, %d", i, c.x, s, err)
		}
	}
}

// P7.1: six ranges and six strings of eight bytes are read, and no more.
func TestParseOfLargeSets(t *testing.T) {
	for s, ok := range map[string]bool{
		"1 3 5 7 9 11":                                    true,
		"1 3 5 7 9 11 13":                                 false,
		"1..2 4..5 7..8 10..11 13..14 16..17":             true,
		"-9 1..2 4..5 7..8 10..11 13..14 16":              false,
		"'a' 'b' 'c' 'd' 'e' 'f'":                         true,
		"'a' 'b' 'c' 'd' 'e' 'f' 'g'":                     false,
		"~ '' 'b' 'c' 'd' 'e' 'f'":                        true,
		"~ '' 'a' 'b' 'c' 'd' 'e' 'f'":                    false,
		"- 1 3 5 7 9 11 ~ 'a' 'b' 'c' 'd' 'e'":            true,
		"- 1 3 5 7 9 11 'a' 'b' 'c' 'd' 'e' ''":           false,
		"'12345678'":                                      true,
		"'123456789'":                                     false,
		`'\00\00\00\00\00\00\00\00'`:                      true,
		`'\00\00\00\00\00\00\00\00\00'`:                   false,
		"9223372036854775807":                             true,
		"9223372036854775808":                             false,
		"-9223372036854775808":                            true,
		"-9223372036854775809":                            false,
		"18446744073709551617":                            false,
		"-9223372036854775808..-1 1..9223372036854775807": true,
		"-9223372036854775808..0 1..9223372036854775807":  false,
		"9223372036854775806 9223372036854775807":         false,
		"9223372036854775807 -9223372036854775808":        false,
	} {
		want := api.ErrForm
		if ok {
			want = api.OK
		}
		if x, err := text.Parse("a:[" + s + "]"); err != want {
			t.Errorf("a:[%s]: %v, %d", s, x, err)
		}
		checkParse(t, "|(a:["+s+"])")
	}
}

// P7.2: the longest event is read; what is longer is none.
func TestLongEvents(t *testing.T) {
	value := `'` + strings.Repeat(`\ff`, 8) + `'`
	s := "{a=" + value + " b=" + value + " c=" + value + " d=" + value + "}"
	all := str(strings.Repeat("\xff", 8))
	if e, err := text.ReadEvent(s); e != (api.Event{all, all, all, all}) || err != api.OK {
		t.Errorf("ReadEvent(%q): %v, %d", s, e, err)
	}
	for _, s := range []string{
		strings.Repeat("{", 1024), strings.Repeat("{", 1025), strings.Repeat("{}", 1<<16), strings.Repeat(" ", 2000), "{}" + strings.Repeat(" ", 2000),
		"{a=" + strings.Repeat("1", 2000) + "}", "{a='" + strings.Repeat("x", 2000) + "'}", "{a=1" + strings.Repeat(" a=1", 1<<16) + "}", string(make([]byte, 1<<20)),
	} {
		if e, err := text.ReadEvent(s); e != (api.Event{}) || err != api.ErrForm {
			t.Errorf("ReadEvent of %d bytes, %.20q..: %v, %d", len(s), s, e, err)
		}
	}
}
