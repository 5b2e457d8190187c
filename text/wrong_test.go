package text_test

import (
	"math"
	"slices"
	"strings"
	"testing"

	"arbour/api"
	"arbour/text"
)

// greatSets are right, and not small; wrongSets aren't right.
func greatSets() []api.Set {
	var numbers []api.Range
	var names []string
	for i := range 7 {
		numbers = append(numbers, r(2*i, 2*i))
		names = append(names, string(rune('a'+i)))
	}
	return []api.Set{ints(numbers...), strs(names...), others(names...), {Ints: numbers, Strs: names}}
}

func wrongSets() []api.Set {
	return []api.Set{
		ints(r(2, 1)), ints(r(math.MaxInt, math.MinInt)), ints(r(5, 6), r(1, 2)), ints(r(1, 2), r(3, 4)), ints(r(1, 5), r(2, 3)), ints(r(1, 1), r(1, 1)),
		ints(r(math.MinInt, math.MaxInt), r(math.MinInt, math.MaxInt)), ints(r(math.MaxInt, math.MaxInt), r(math.MinInt, math.MinInt)),
		strs("b", "a"), strs("a", "a"), strs("123456789"), others("b", "a"), others("a", "a"), others("123456789"), strs(strings.Repeat("\x00", 1<<16)),
		{Absent: true, Ints: []api.Range{r(3, 2), r(1, 9), r(-5, -8)}, Co: true, Strs: []string{"z", "", "a long string", "", "z"}},
		ints(make([]api.Range, 9)...), strs(make([]string, 9)...),
	}
}

func wrongValues() []api.Value {
	return []api.Value{
		{N: 1}, {N: -1}, {S: "x"}, {Kind: api.Int, N: 1, S: "x"}, {Kind: api.Str, N: 1, S: "x"}, {Kind: api.Str, N: -1},
		str("123456789"), str(strings.Repeat("x", 1<<16)), {Kind: 3}, {Kind: 4, N: 1}, {Kind: -1}, {Kind: math.MaxInt}, {Kind: math.MinInt},
	}
}

// wrongParts are expressions that mayn't be because of one part alone.
func wrongParts() []api.Expr {
	a := atom(0, ints(r(1, 5)))
	out := []api.Expr{not(), not(a, a), {Kind: api.EAtom, Set: a.Set, Sub: []api.Expr{a}}, {Kind: api.EAtom, Sub: []api.Expr{and()}}}
	for _, kind := range []int{0, 5, 9, -1, math.MinInt, math.MaxInt, 1<<32 + 1} {
		out = append(out, api.Expr{Kind: kind}, api.Expr{Kind: kind, Set: a.Set}, api.Expr{Kind: kind, Sub: []api.Expr{a}})
	}
	for _, attr := range []int{-1, api.Attrs, math.MinInt, math.MaxInt, 1 << 32} {
		out = append(out, atom(attr, a.Set), atom(attr, api.Set{}))
	}
	for _, s := range slices.Concat(greatSets(), wrongSets()) {
		out = append(out, atom(0, s), atom(3, s))
	}
	for _, x := range []api.Expr{and(), or(a, a), not(a)} {
		other, more := x, x
		other.Attr, more.Set = 1, a.Set
		out = append(out, other, more)
	}
	return out
}

// tooLarge are expressions of too many parts, or too deep, or without an end, that are else as they should be.
func tooLarge() []api.Expr {
	out := []api.Expr{chain(9).x, chain(50).x, nots(9).x, tellAnd(atoms(40)...).x, tellOr(atoms(1 << 12)...).x, tellNot(tellAnd(atoms(39)...)).x, and(or(), chain(8).x)}
	for _, kind := range []int{api.EAnd, api.EOr, api.ENot, api.EAtom, 0} {
		one, two := make([]api.Expr, 1), make([]api.Expr, 2)
		one[0] = api.Expr{Kind: kind, Sub: one}
		two[0], two[1] = and(), api.Expr{Kind: kind, Sub: two}
		out = append(out, one[0], two[1])
	}
	return out
}

// wrongExprs are all of these, at all places below others.
func wrongExprs() []api.Expr {
	out := tooLarge()
	for _, x := range wrongParts() {
		out = append(out, x, not(x), not(not(x)), and(x), or(x), and(or(), x), or(x, and()), not(and(or(and(), not(x)), or())))
	}
	return out
}

// P7.1
func TestPrintOfWrongExprs(t *testing.T) {
	for i, x := range wrongExprs() {
		if s, err := text.Print(x); s != "" || err != api.ErrArg {
			t.Errorf("Print of wrong expression %d: %q, %d", i, s, err)
		}
	}
}

// P7.2
func TestEventOfWrongEvents(t *testing.T) {
	for _, v := range wrongValues() {
		for attr := range api.Attrs {
			for _, e := range []api.Event{{}, {number(1), str("x"), {}, number(0)}} {
				e[attr] = v
				if s, err := text.Event(e); s != "" || err != api.ErrArg {
					t.Errorf("Event(%v): %q, %d", e, s, err)
				}
			}
		}
	}
}

// Rule 1: of sets that aren't right any text is told, but there is no panic.
func TestSetOfWrongSets(t *testing.T) {
	for _, s := range wrongSets() {
		text.Set(s)
	}
}

// P7.1
func TestParseOfWrongTexts(t *testing.T) {
	inAtoms := []string{
		" ", "  ", "1 ", " 1", "1  3", "- ", " -", "-  1", "-1 -", "1\t3", "1,3", "1\n", "1 3 ", "1 - 3",
		"+1", "-+1", "+0", "01", "00", "-0", "-01", "--1", "- 01", "1..02", "1..+2", "01..2", "-01..2", "-0..1", "-1..-0", "0x1", "1_0", "1e3", "1.5", "\u0661",
		"1 -", "~ 1", "~ -", "'a' 1", "'a' ~", "'a' -", "1 ~ -", "- 'a' ~", "1 'a' 3", "~ 'a' 1", "1..2 ~ 4", "-~", "1~", "~'a'", "1'a'", "'a''b'", "-'a'",
		"- -", "~ ~", "1 1", "'a' 'a'", "1..2 1..2", "'' ''", "1..3 2", "1..3 2..5", "2 1..3",
		"1 2", "1..2 3", "1 2..3", "1..2 3..4", "-1 0", "-2..-1 0..1", "3 1", "3..4 1", "3 1..2", "0 -2", "5 1 3", "1 5 3",
		"'b' 'a'", "'aa' 'a'", "'a' ''", "'a' 'c' 'b'", "~ 'b' 'a'", `'(' '\27'`, `'\7f' '\5c'`,
		"5..5", "5..1", "1..0", "0..0", "-1..-2", "9223372036854775807..-9223372036854775808", "1..", "..1", "..", "1...5", "1....5", "1. .5", "1 ..5", "1.. 5", "1.5", "1..2..3", "1..-", "-..1", "-1..-", "1..'x'", "'x'..'y'", "1..~", "0..-", "0..~", "0..''", "-1..''",
		"'", "'a", "a'", "'a' '", `'\27`, `'\`, `'\2'`, `'\41'`, `'\5C'`, `'\FF'`, `'\20'`, `'\7e'`, `'\''`, `'\\'`, "'\x00'", "'\x7f'", "'\x80'", "'\u00e9'", "\"a\"", "'a' b", "x",
		"]", "[", "[1", "1]", "1] 3", "[1]", "a", "a:[1]", ")", "(1)", "!1", "~1", "~~", "-~", "\\", "=", "\x00", "\xff",
	}
	for _, s := range inAtoms {
		for _, whole := range []string{"a:[" + s + "]", "!d:[" + s + "]", "&(b:[1] c:[" + s + "])", "|(c:[" + s + "] b:[1])"} {
			if x, err := text.Parse(whole); err != api.ErrForm || !equal(x, api.Expr{}) {
				t.Errorf("Parse(%q): %v, %d", whole, x, err)
			}
			checkParse(t, whole)
		}
	}
	for _, s := range []string{
		"", " ", "a", "a:", "a:[", "a[1]", "a=[1]", "a :[1]", "a: [1]", " a:[1]", "a:[1] ", "a:[1]]", "a::[1]", ":[1]", "[1]", "a:[1]:", "a:1", "a:(1)", "1:[1]", "-:[1]", ":", "]",
		"e:[1]", "A:[1]", "aa:[1]", "ab:[1]", "`:[1]", "\x00:[1]", "\u0430:[1]", "0:[1]",
		"a:[1] b:[1]", "a:[1]b:[1]", "a:[1]&()", "&()a:[1]", "a:[1]!", "(a:[1])", "()", "", "a", "-", "~", "'a'", "1",
		"&", "|", "!", "&(", "|(", "!(", "!()", "!(a:[1])", "&)", "& ()", "&( )", "&()(", "&())", "&()&()", "&() ", " &()", "&a:[1]", "&(a:[1]", "|(a:[1]", "&(a:[1] ", "&(a:[1] )", "&( a:[1])", "&(a:[1]  b:[1])", "&(a:[1]b:[1])", "&(a:[1],b:[1])", "&(a:[1]])", "&(a:[1]) )", "&(a:[1])b", "&[a:[1]]", "&{}", "&(&)", "&(&()", "&(()", "&(!)", "&(! a:[1])",
		"! a:[1]", "!!", "!!a", "!a:[1]!a:[1]", "!a:[1] b:[1]", "!&", "!&(", "!-", "a!:[1]", "+a:[1]", "&&()", "&|()", "&!()", "^()", "||()", "and()", "{}", "{a=1}", "a:[1]\x00", "\x00a:[1]", "a:\x00[1]", "a:[1]\n", "\xef\xbb\xbfa:[1]",
		"!!!!!!!!a:[1]",
	} {
		if x, err := text.Parse(s); err != api.ErrForm || !equal(x, api.Expr{}) {
			t.Errorf("Parse(%q): %v, %d", s, x, err)
		}
		checkParse(t, s)
	}
}

// P7.2
func TestReadEventOfWrongTexts(t *testing.T) {
	for _, s := range []string{
		"", " ", "{", "}", "}{", "{}}", "{{}", "{{}}", "{ }", "{} ", " {}", "()", "[]", "a=1", "{a=1", "a=1}", "{a=1}}", "{a=1} ", " {a=1}", "{ a=1}", "{a=1 }", "{a=1}{b=1}", "{a=1} {b=1}",
		"{a}", "{a=}", "{a", "{a=", "{=1}", "{1}", "{=}", "{a:1}", "{a==1}", "{a =1}", "{a= 1}", "{a=[1]}", "{a=1=1}", "{'a'=1}",
		"{b=1 a=1}", "{d=1 c=1}", "{a=1 c=1 b=1}", "{d=1 a=1}", "{a=1 a=1}", "{a=1 a=2}", "{a=1 b=1 b=1}", "{a=1 b=1 a=1}", "{d='' d=''}",
		"{a=1  b=1}", "{a=1,b=1}", "{a=1\tb=1}", "{a=1b=1}", "{a='x'b=1}", "{a=1 b}", "{a=1 b=}", "{a=1 =1}", "{a=1 b=1 }",
		"{e=1}", "{A=1}", "{aa=1}", "{`=1}", "{a=1 e=1}", "{0=1}", "{\x00=1}",
		"{a=-}", "{a=- b=1}", "{a=1 b=-}", "{d=-}", "{a=1 b=- c=1}", "{a=--1}", "{a=~}", "{a=1..2}", "{a=1 2}",
		"{a=+1}", "{a=01}", "{a=-0}", "{a=00}", "{a=-01}", "{a=0x1}", "{a=1.0}", "{a=1_0}", "{a=9223372036854775808}", "{a=-9223372036854775809}",
		"{a='}", "{a='x}", "{a=x'}", "{a=x}", "{a='123456789'}", `{a='\41'}`, `{a='\5C'}`, `{a='\2'}`, `{a='\27}`, `{a='\'}`, "{a='\x00'}", "{a='\x7f'}", "{a='\x80'}", "{a='x''y'}", "{a=\"x\"}",
		"{a=1}\x00", "\x00{a=1}", "{a=1\x00}", "{}\n", "a:[1]", "&()",
	} {
		if e, err := text.ReadEvent(s); err != api.ErrForm || e != (api.Event{}) {
			t.Errorf("ReadEvent(%q): %v, %d", s, e, err)
		}
		checkReadEvent(t, s)
	}
}

// P7.1, P7.2: texts that are cut off anywhere, at either end, and texts with one byte more behind them.
func TestTornTexts(t *testing.T) {
	for _, c := range fewExprs() {
		for i := range len(c.text) {
			if x, err := text.Parse(c.text[:i]); err != api.ErrForm || !equal(x, api.Expr{}) {
				t.Fatalf("Parse(%q): %v, %d", c.text[:i], x, err)
			}
			checkParse(t, c.text[i:])
		}
		for b := range 256 {
			s := c.text + string([]byte{byte(b)})
			if x, err := text.Parse(s); err != api.ErrForm || !equal(x, api.Expr{}) {
				t.Fatalf("Parse(%q): %v, %d", s, x, err)
			}
		}
	}
	for k, c := range someEvents() {
		if k%17 != 0 {
			continue
		}
		for i := range len(c.text) {
			for _, s := range []string{c.text[:i], c.text[i+1:]} {
				if e, err := text.ReadEvent(s); err != api.ErrForm || e != (api.Event{}) {
					t.Fatalf("ReadEvent(%q): %v, %d", s, e, err)
				}
			}
		}
		for b := range 256 {
			for _, s := range []string{c.text + string([]byte{byte(b)}), string([]byte{byte(b)}) + c.text} {
				if e, err := text.ReadEvent(s); err != api.ErrForm || e != (api.Event{}) {
					t.Fatalf("ReadEvent(%q): %v, %d", s, e, err)
				}
			}
		}
	}
}

// spoiled goes through all texts that are a text but for one byte, or but for two neighbours' order.
func spoiled(s string, see func(string)) {
	marks := " -~'\\.:=[](){}!&|abde0123579\x00\x1f\x7f\xff+"
	for i := range len(s) + 1 {
		for k := range len(marks) {
			see(s[:i] + marks[k:k+1] + s[i:])
		}
		if i == len(s) {
			return
		}
		see(s[:i] + s[i+1:])
		see(s[:i] + s[i:i+1] + s[i:])
		for k := range len(marks) {
			see(s[:i] + marks[k:k+1] + s[i+1:])
		}
		if i+1 < len(s) {
			see(s[:i] + s[i+1:i+2] + s[i:i+1] + s[i+2:])
		}
	}
}

// P7.1 to P7.3: texts that are nearly those of something.
func TestSpoiledTexts(t *testing.T) {
	for i, c := range fewExprs() {
		if len(c.text) < 100 || i == 0 {
			spoiled(c.text, func(s string) { checkParse(t, s) })
		}
	}
	for i, c := range someSets() {
		if i%31 == 0 {
			spoiled("a:"+c.text, func(s string) { checkParse(t, s) })
		}
	}
	for i, c := range someEvents() {
		if i%61 == 0 {
			spoiled(c.text, func(s string) { checkReadEvent(t, s) })
		}
	}
}

// P7.1 to P7.3: texts laid by chance, of bytes and of tokens.
func TestTextsByChance(t *testing.T) {
	tokens := []string{"a:[1]", "b:['x']", "a:[", "]", "&(", "|(", ")", " ", "!", "-", "~", "1", "..", "'", `\27`, "x", "{", "}", "c=", "d='y'", "e", "\x00", "\xff"}
	d := dice(11)
	for i := range 30000 {
		s := ""
		for range d.roll(12) {
			if i%3 == 0 {
				s += string([]byte{byte(d.roll(256))})
			} else {
				s += tokens[d.roll(len(tokens))]
			}
		}
		checkParse(t, s)
		checkReadEvent(t, s)
		checkReadEvent(t, "{"+s+"}")
		checkParse(t, "a:["+s+"]")
	}
	for _, token := range append(tokens, "[", "(", "a", "a:", "a=", "!&(", "&(!", "&(a:[1] ", "&(a:[ ", "0", "9", "'a' ") {
		for _, n := range []int{100, 500, 1024} {
			s := strings.Repeat(token, n)
			checkParse(t, s[:min(len(s), 1024)])
			checkParse(t, s)
			checkReadEvent(t, s)
			checkReadEvent(t, "{"+s+"}")
		}
	}
}
