package value_test

import (
	"fmt"
	"math"
	"regexp"
	"strconv"
	"strings"
	"testing"

	"arbour/api"
	"arbour/value"
)

// P1.2
func TestQuoteOfEachByte(t *testing.T) {
	for c := range 256 {
		want := "'" + string([]byte{byte(c)}) + "'"
		if c < 32 || c > 126 || c == '\'' || c == '\\' {
			want = fmt.Sprintf("'\\%02x'", c)
		}
		if got := value.Quote(string([]byte{byte(c)})); got != want {
			t.Errorf("byte %d: %q, not %q", c, got, want)
		}
	}
}

// P1.2
func TestQuote(t *testing.T) {
	for s, want := range map[string]string{
		"":                           `''`,
		"a'b":                        `'a\27b'`,
		"12345678":                   `'12345678'`,
		"123456789":                  `'123456789'`,
		`\`:                          `'\5c'`,
		`\27`:                        `'\5c27'`,
		" ~":                         `' ~'`,
		"\x1f\x7f":                   `'\1f\7f'`,
		"\u00e9":                     `'\c3\a9'`,
		"\"-\t":                      `'"-\09'`,
		strings.Repeat("\xff", 1000): "'" + strings.Repeat(`\ff`, 1000) + "'",
	} {
		if got := value.Quote(s); got != want {
			t.Errorf("Quote(%q): %q, not %q", s, got, want)
		}
	}
}

// P1.2
func TestText(t *testing.T) {
	for v, want := range map[api.Value]string{
		{}:                   "-",
		number(0):            "0",
		number(7):            "7",
		number(-12):          "-12",
		number(math.MaxInt):  "9223372036854775807",
		number(math.MinInt):  "-9223372036854775808",
		str(""):              "''",
		str("a'b"):           `'a\27b'`,
		str("12345678"):      "'12345678'",
		str("\x00\x00\xff~"): `'\00\00\ff~'`,
	} {
		if got := value.Text(v); got != want {
			t.Errorf("Text(%#v): %q, not %q", v, got, want)
		}
	}
	for _, v := range wrongValues() {
		if got := value.Text(v); got != "" {
			t.Errorf("Text(%#v): %q", v, got)
		}
	}
}

// P1.3
func TestReadTheBeginning(t *testing.T) {
	for _, c := range []struct {
		s    string
		want api.Value
		long int
	}{
		{"-", api.Value{}, 1}, {"-]", api.Value{}, 1}, {"--5", api.Value{}, 1}, {"-'a'", api.Value{}, 1}, {"- 5", api.Value{}, 1},
		{"0", number(0), 1}, {"0]", number(0), 1}, {"0x10", number(0), 1}, {"0-", number(0), 1}, {"0..5", number(0), 1},
		{"-7]", number(-7), 2}, {"10 20", number(10), 2}, {"1_000", number(1), 1}, {"5'a'", number(5), 1}, {"-100", number(-100), 4},
		{"9/", number(9), 1}, {"9:", number(9), 1},
		{"9223372036854775807", number(math.MaxInt), 19}, {"-9223372036854775808", number(math.MinInt), 20},
		{"''", str(""), 2}, {"'''", str(""), 2}, {"'a'b'", str("a"), 3}, {"'a' 'b'", str("a"), 3},
		{"'12345678'", str("12345678"), 10}, {"'12345678'9", str("12345678"), 10},
		{`'\00\01\02\03\04\05\06\07'`, str("\x00\x01\x02\x03\x04\x05\x06\x07"), 26},
		{`'\27\5c\7f\ff'`, str("'\\\x7f\xff"), 14}, {`'\5c27'`, str(`\27`), 7},
	} {
		if v, long, ok := value.Read(c.s); v != c.want || long != c.long || !ok {
			t.Errorf("Read(%q): %#v, %d, %v", c.s, v, long, ok)
		}
	}
}

// P1.3
func TestReadNothing(t *testing.T) {
	for _, s := range []string{
		"", " ", " 1", "+1", "a", "]", "~", "\\", "\x00", "\xff", "\u0661",
		"00", "07", "007", "-0", "-0]", "-00", "-07",
		"9223372036854775808", "-9223372036854775809", "18446744073709551616", strings.Repeat("9", 1000), "-" + strings.Repeat("9", 1000), "0" + strings.Repeat("0", 1000),
		"'", "'a", "'12345678", "'123456789'", "'123456789", `'\00\00\00\00\00\00\00\00\00'`,
		`'\`, `'\'`, `'\2`, `'\2'`, `'\27`, `'\\'`, `'\''`, `'\5C'`, `'\FF'`, `'\FF`, `'\g0'`, `'\0g'`, `'\ 0'`, `'\/0'`, `'\:0'`, "'\\`0'",
		`'\41'`, `'\20'`, `'\7e'`, "'\x1f'", "'\x00'", "'\x7f'", "'\x80'", "'\u00e9'", "'a\n'",
	} {
		if v, long, ok := value.Read(s); v != (api.Value{}) || long != 0 || ok {
			t.Errorf("Read(%q): %#v, %d, %v", s, v, long, ok)
		}
	}
}

// P1.3
func TestReadOfEachByte(t *testing.T) {
	for c := range 256 {
		plain := c >= 32 && c <= 126 && c != '\'' && c != '\\'
		one := string([]byte{byte(c)})
		if v, _, ok := value.Read("'x" + one + "'"); c != '\'' && (ok != plain || ok && v.S != "x"+one) {
			t.Errorf("byte %d as itself: %#v, %v", c, v, ok)
		}
		if v, _, ok := value.Read(fmt.Sprintf("'x\\%02x'", c)); ok == plain || ok && v.S != "x"+one {
			t.Errorf("byte %d by digits: %#v, %v", c, v, ok)
		}
	}
}

// The document's words once more, in another form than the program has them.
var (
	stringText = regexp.MustCompile(`^'(?:[ -&(-\[\]-~]|\\(?:[01][0-9a-f]|27|5c|7f|[89a-f][0-9a-f])){0,8}'`)
	someDigits = regexp.MustCompile(`^-?[0-9]+`)
	numberText = regexp.MustCompile(`^(?:0|-?[1-9][0-9]*)$`)
)

func beginning(s string) (text string, ok bool) {
	if text := stringText.FindString(s); text != "" {
		return text, true
	}
	if text := someDigits.FindString(s); text != "" {
		_, err := strconv.ParseInt(text, 10, 64)
		return text, err == nil && numberText.MatchString(text)
	}
	return "-", strings.HasPrefix(s, "-")
}

func texts(parts []string, most int, see func(string)) {
	see("")
	if most == 0 {
		return
	}
	for _, p := range parts {
		texts(parts, most-1, func(rest string) { see(p + rest) })
	}
}

// P1.3, P1.5
func TestReadOfAllShortTexts(t *testing.T) {
	parts := []string{"'", `\`, "-", "0", "2", "7", "5c", "f", "C", "aaa", "\x1f", "\xc3", " "}
	texts(parts, 5, func(s string) {
		text, want := beginning(s)
		v, long, ok := value.Read(s)
		if ok != want {
			t.Errorf("Read(%q): %v", s, ok)
		} else if ok && (long != len(text) || value.Text(v) != text || !value.Right(v)) {
			t.Errorf("Read(%q): %#v, %d", s, v, long)
		} else if !ok && (long != 0 || v != api.Value{}) {
			t.Errorf("Read(%q): %#v, %d beside false", s, v, long)
		}
	})
}

// P1.5
func TestWhatIsWrittenIsRead(t *testing.T) {
	list := rightValues()
	for c := range 256 {
		one := string([]byte{byte(c)})
		list = append(list, str(one), str(strings.Repeat(one, api.MaxString)), str("a"+one+"'\\0"))
	}
	for bit := range 63 {
		n := 1 << bit
		list = append(list, number(n), number(-n), number(n-1), number(1-n))
	}
	for n := 1; n <= math.MaxInt/10; n *= 10 {
		list = append(list, number(n), number(-n), number(n-1), number(10*n))
	}
	for _, v := range list {
		text := value.Text(v)
		for _, behind := range []string{"", "]", " 5", "'", "\\", ".."} {
			if got, long, ok := value.Read(text + behind); got != v || long != len(text) || !ok {
				t.Errorf("%#v as %q: %#v, %d, %v", v, text+behind, got, long, ok)
			}
		}
	}
}
