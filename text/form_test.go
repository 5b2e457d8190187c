package text_test

import (
	"math"
	"regexp"
	"strconv"
	"strings"
	"testing"

	"arbour/api"
	"arbour/text"
)

// The document's words once more, in another form than the program has them: patterns of whole texts,
// and expressions from the innermost part on.
const (
	aNumber = `(?:0|-?[1-9][0-9]*)`
	aRange  = aNumber + `(?:\.\.` + aNumber + `)?`
	aString = `'(?:[ -&(-\[\]-~]|\\(?:[01][0-9a-f]|27|5c|7f|[89a-f][0-9a-f])){0,8}'`
	aValue  = `(` + aNumber + `|` + aString + `)`
)

var (
	oneRange  = regexp.MustCompile(aRange)
	oneString = regexp.MustCompile(aString)
	escape    = regexp.MustCompile(`\\..`)
	// Each part, and each value, has a blank ahead here.
	setParts   = regexp.MustCompile(`^( -)?((?: ` + aRange + `){0,6})( ~)?((?: ` + aString + `){0,6})$`)
	eventParts = regexp.MustCompile(`^(?: a=` + aValue + `)?(?: b=` + aValue + `)?(?: c=` + aValue + `)?(?: d=` + aValue + `)?$`)
	token      = regexp.MustCompile(`^(?:([abcd]):\[((?:[^'\]]|'[^']*')*)\]|[&|]\(|\)| |!)`)
	innermost  = regexp.MustCompile(`!<[0-9]+>|[&|]\((?:<[0-9]+>(?: <[0-9]+>)*)?\)`)
	aPlace     = regexp.MustCompile(`[0-9]+`)
	onePlace   = regexp.MustCompile(`^<([0-9]+)>$`)
)

func ahead(inside string) string {
	if inside == "" {
		return ""
	}
	return " " + inside
}

func stringOf(text string) string {
	return escape.ReplaceAllStringFunc(text[1:len(text)-1], func(e string) string {
		c, _ := strconv.ParseUint(e[1:], 16, 8)
		return string([]byte{byte(c)})
	})
}

// setOf answers the set of a text without its brackets.
func setOf(inside string) (api.Set, bool) {
	m := setParts.FindStringSubmatch(ahead(inside))
	if m == nil {
		return api.Set{}, false
	}
	s := api.Set{Absent: m[1] != "", Co: m[3] != ""}
	for i, text := range oneRange.FindAllString(m[2], -1) {
		first, last, two := strings.Cut(text, "..")
		if !two {
			last = first
		}
		lo, err := strconv.ParseInt(first, 10, 64)
		hi, wrong := strconv.ParseInt(last, 10, 64)
		if err != nil || wrong != nil || two && lo >= hi {
			return api.Set{}, false
		}
		if i > 0 && (s.Ints[i-1].Hi == math.MaxInt || s.Ints[i-1].Hi+1 >= int(lo)) {
			return api.Set{}, false
		}
		s.Ints = append(s.Ints, r(int(lo), int(hi)))
	}
	for i, text := range oneString.FindAllString(m[4], -1) {
		s.Strs = append(s.Strs, stringOf(text))
		if i > 0 && s.Strs[i-1] >= s.Strs[i] {
			return api.Set{}, false
		}
	}
	return s, true
}

// atomsOf answers the atoms of a text, and the text with the places of these in their stead.
func atomsOf(s string) (list []told, row string, ok bool) {
	for s != "" {
		m := token.FindStringSubmatch(s)
		if m == nil {
			return nil, "", false
		}
		s = s[len(m[0]):]
		if m[1] == "" {
			row += m[0]
			continue
		}
		inside, ok := setOf(m[2])
		if !ok {
			return nil, "", false
		}
		row += "<" + strconv.Itoa(len(list)) + ">"
		list = append(list, tellAtom(strings.Index("abcd", m[1]), toldSet{inside, "[" + m[2] + "]"}))
	}
	return list, row, true
}

// exprOf answers the expression of a text, and false, if none that may be has it.
func exprOf(s string) (api.Expr, bool) {
	list, row, ok := atomsOf(s)
	if !ok {
		return api.Expr{}, false
	}
	for at := innermost.FindStringIndex(row); at != nil; at = innermost.FindStringIndex(row) {
		part := row[at[0]:at[1]]
		var subs []told
		for _, place := range aPlace.FindAllString(part, -1) {
			i, _ := strconv.Atoi(place)
			subs = append(subs, list[i])
		}
		row = row[:at[0]] + "<" + strconv.Itoa(len(list)) + ">" + row[at[1]:]
		switch part[0] {
		case '!':
			list = append(list, tellNot(subs[0]))
		case '&':
			list = append(list, tellAnd(subs...))
		default:
			list = append(list, tellOr(subs...))
		}
	}
	m := onePlace.FindStringSubmatch(row)
	if m == nil {
		return api.Expr{}, false
	}
	i, _ := strconv.Atoi(m[1])
	return list[i].x, list[i].mayBe()
}

// eventOf answers the event of a text.
func eventOf(s string) (api.Event, bool) {
	if len(s) < 2 || s[0] != '{' || s[len(s)-1] != '}' {
		return api.Event{}, false
	}
	m := eventParts.FindStringSubmatch(ahead(s[1 : len(s)-1]))
	if m == nil {
		return api.Event{}, false
	}
	var e api.Event
	for attr, text := range m[1:] {
		if text == "" {
			continue
		}
		if text[0] == '\'' {
			e[attr] = str(stringOf(text))
			continue
		}
		n, err := strconv.ParseInt(text, 10, 64)
		if err != nil {
			return api.Event{}, false
		}
		e[attr] = number(int(n))
	}
	return e, true
}

// checkParse holds Parse against the second form, and what is read against its text.
func checkParse(t *testing.T, s string) {
	t.Helper()
	x, err := text.Parse(s)
	want, ok := exprOf(s)
	switch {
	case len(s) > 1024:
		if err != api.ErrLong || !equal(x, api.Expr{}) {
			t.Fatalf("Parse of %d bytes: %v, %d", len(s), x, err)
		}
	case !ok:
		if err != api.ErrForm || !equal(x, api.Expr{}) {
			t.Fatalf("Parse(%q): %v, %d", s, x, err)
		}
	case err != api.OK || !equal(x, want):
		t.Fatalf("Parse(%q): %v, %d", s, x, err)
	default:
		if again, err := text.Print(x); again != s || err != api.OK {
			t.Fatalf("%q, read, prints as %q, %d", s, again, err)
		}
	}
}

// checkReadEvent does so for ReadEvent.
func checkReadEvent(t *testing.T, s string) {
	t.Helper()
	e, err := text.ReadEvent(s)
	want, ok := eventOf(s)
	switch {
	case !ok:
		if err != api.ErrForm || e != (api.Event{}) {
			t.Fatalf("ReadEvent(%q): %v, %d", s, e, err)
		}
	case err != api.OK || e != want:
		t.Fatalf("ReadEvent(%q): %v, %d", s, e, err)
	default:
		if again, err := text.Event(e); again != s || err != api.OK {
			t.Fatalf("%q, read, prints as %q, %d", s, again, err)
		}
	}
}

// texts goes through all rows of at most so many tokens.
func texts(tokens []string, most int, see func(string)) {
	see("")
	if most == 0 {
		return
	}
	texts(tokens, most-1, func(rest string) {
		for _, first := range tokens {
			see(first + rest)
		}
	})
}

// P7.1, P7.3: all short texts of sets.
func TestParseOfAllShortSets(t *testing.T) {
	texts([]string{"-", "0", "1", "2", "..", ".", "~", "'", "a", "'a'", "'b'", " ", "]"}, 4, func(s string) {
		checkParse(t, "a:["+s+"]")
	})
	texts([]string{"-", "1", "3..4", "6", "~", "''", "'a'", "+"}, 4, func(s string) {
		checkParse(t, "c:["+s+"]")
	})
	texts([]string{"- ", "1 ", "2 ", "4 ", "4..5 ", "~ ", "'a' ", "'b' "}, 5, func(s string) {
		checkParse(t, "b:["+strings.TrimSuffix(s, " ")+"]")
	})
}

// P7.1, P7.3: all short texts of expressions.
func TestParseOfAllShortExprs(t *testing.T) {
	texts([]string{"a:[1]", "b:['x']", "&(", "|(", ")", "!", " "}, 5, func(s string) { checkParse(t, s) })
	texts([]string{"a:[]", "&", "|", "(", ")", "!", " "}, 5, func(s string) { checkParse(t, s) })
	texts([]string{"a", "d", "e", ":", "[", "]", "1", "A"}, 5, func(s string) { checkParse(t, s) })
	texts([]string{"a:[1]", "&(", ")", " ", "!"}, 6, func(s string) { checkParse(t, s) })
}

// P7.2, P7.3: all short texts of events.
func TestReadEventOfAllShortTexts(t *testing.T) {
	texts([]string{"a=1", "b='x'", "c=", "-", "0", "d", " ", "=", "}", "{"}, 4, func(s string) {
		checkReadEvent(t, s)
		checkReadEvent(t, "{"+s+"}")
	})
	texts([]string{"a=1 ", "a=2 ", "b='x' ", "c=-7 ", "d='' ", "c=- ", "e=1 "}, 5, func(s string) {
		checkReadEvent(t, "{"+strings.TrimSuffix(s, " ")+"}")
	})
}
