package text_test

import (
	"math"
	"slices"
	"strings"

	"arbour/api"
)

func number(n int) api.Value { return api.Value{Kind: api.Int, N: n} }

func str(s string) api.Value { return api.Value{Kind: api.Str, S: s} }

func r(lo, hi int) api.Range { return api.Range{Lo: lo, Hi: hi} }

func ints(list ...api.Range) api.Set { return api.Set{Ints: list} }

func strs(list ...string) api.Set { return api.Set{Strs: list} }

func others(list ...string) api.Set { return api.Set{Co: true, Strs: list} }

// The tests lay their expressions without a call of package expr.
func atom(attr int, s api.Set) api.Expr { return api.Expr{Kind: api.EAtom, Attr: attr, Set: s} }

func and(list ...api.Expr) api.Expr { return api.Expr{Kind: api.EAnd, Sub: list} }

func or(list ...api.Expr) api.Expr { return api.Expr{Kind: api.EOr, Sub: list} }

func not(list ...api.Expr) api.Expr { return api.Expr{Kind: api.ENot, Sub: list} }

func equalSets(a, b api.Set) bool {
	return a.Absent == b.Absent && a.Co == b.Co && slices.Equal(a.Ints, b.Ints) && slices.Equal(a.Strs, b.Strs)
}

func equal(a, b api.Expr) bool {
	return a.Kind == b.Kind && a.Attr == b.Attr && equalSets(a.Set, b.Set) && slices.EqualFunc(a.Sub, b.Sub, equal)
}

// someRanges are lists of ranges, each with its text told by hand.
func someRanges() map[string][]api.Range {
	low, high := math.MinInt, math.MaxInt
	return map[string][]api.Range{
		"":                              nil,
		"0":                             {r(0, 0)},
		"7":                             {r(7, 7)},
		"-7":                            {r(-7, -7)},
		"1..2":                          {r(1, 2)},
		"-1..0":                         {r(-1, 0)},
		"-5..-1":                        {r(-5, -1)},
		"-1..1":                         {r(-1, 1)},
		"1..5":                          {r(1, 5)},
		"1 3":                           {r(1, 1), r(3, 3)},
		"1..2 4":                        {r(1, 2), r(4, 4)},
		"10..99 101..999 1000000000000": {r(10, 99), r(101, 999), r(1000000000000, 1000000000000)},
		"-100 -10 9 11":                 {r(-100, -100), r(-10, -10), r(9, 9), r(11, 11)},
		"1 3 5 7 9 11":                  {r(1, 1), r(3, 3), r(5, 5), r(7, 7), r(9, 9), r(11, 11)},
		"-9223372036854775808":          {r(low, low)},
		"9223372036854775807":           {r(high, high)},
		"-9223372036854775808..9223372036854775807":                       {r(low, high)},
		"-9223372036854775808 9223372036854775807":                        {r(low, low), r(high, high)},
		"-9223372036854775808..-9223372036854775807":                      {r(low, low+1)},
		"9223372036854775806..9223372036854775807":                        {r(high-1, high)},
		"-9223372036854775808..-2 0 2..4 6 8..9 11..9223372036854775807":  {r(low, -2), r(0, 0), r(2, 4), r(6, 6), r(8, 9), r(11, high)},
		"-9223372036854775807..9223372036854775805 9223372036854775807":   {r(low+1, high-2), r(high, high)},
		"-9223372036854775808 -9223372036854775806..9223372036854775806":  {r(low, low), r(low+2, high-1)},
		"-3000000000..-2999999999 -1..2147483648 4294967296..99999999999": {r(-3000000000, -2999999999), r(-1, 2147483648), r(4294967296, 99999999999)},
	}
}

// someStrings are lists of strings, each with its text told by hand.
func someStrings() map[string][]string {
	return map[string][]string{
		"":                           nil,
		"''":                         {""},
		"'x'":                        {"x"},
		"' '":                        {" "},
		"'~'":                        {"~"},
		"'-'":                        {"-"},
		"']'":                        {"]"},
		"') !a'":                     {") !a"},
		"'1..5'":                     {"1..5"},
		`'\27'`:                      {"'"},
		`'\5c'`:                      {`\`},
		`'a\27b'`:                    {"a'b"},
		`'\5c27'`:                    {`\27`},
		`'\00'`:                      {"\x00"},
		`'\1f'`:                      {"\x1f"},
		`'\7f'`:                      {"\x7f"},
		`'\80'`:                      {"\x80"},
		`'\ff'`:                      {"\xff"},
		`'\c3\a9'`:                   {"\u00e9"},
		"'12345678'":                 {"12345678"},
		"'' ' ' 'a' 'aa'":            {"", " ", "a", "aa"},
		`'\0a' '\27' '('`:            {"\n", "'", "("},
		`'Z' '\5c' ']' '~'`:          {"Z", `\`, "]", "~"},
		`'\00\1f\7f\80\ff\27\5c\0d'`: {"\x00\x1f\x7f\x80\xff'\\\r"},
		"'a' 'b' 'c' 'd' 'e' 'f'":    {"a", "b", "c", "d", "e", "f"},
	}
}

// toldSet is a set and its text.
type toldSet struct {
	s    api.Set
	text string
}

func keys[V any](m map[string]V) []string {
	var out []string
	for key := range m {
		out = append(out, key)
	}
	slices.Sort(out)
	return out
}

// inRow puts texts behind each other with a blank between, but for empty ones.
func inRow(list ...string) string {
	return strings.Join(slices.DeleteFunc(list, func(s string) bool { return s == "" }), " ")
}

// someSets: sets with no part, with each part alone, and with all of them.
func someSets() []toldSet {
	var out []toldSet
	ranges, names := someRanges(), someStrings()
	for _, absent := range []string{"", "-"} {
		for _, co := range []string{"", "~"} {
			for _, numbers := range keys(ranges) {
				for _, row := range keys(names) {
					s := api.Set{Absent: absent != "", Ints: ranges[numbers], Co: co != "", Strs: names[row]}
					out = append(out, toldSet{s, "[" + inRow(absent, numbers, co, row) + "]"})
				}
			}
		}
	}
	return out
}

// told is an expression and its text, how many parts it has, and how deep it is.
type told struct {
	x            api.Expr
	text         string
	parts, depth int
}

func tellAtom(attr int, s toldSet) told {
	return told{atom(attr, s.s), "abcd"[attr:attr+1] + ":" + s.text, 1, 1}
}

func tellList(kind int, mark string, list []told) told {
	out := told{x: api.Expr{Kind: kind}, parts: 1, depth: 1}
	var texts []string
	for _, sub := range list {
		out.x.Sub = append(out.x.Sub, sub.x)
		texts = append(texts, sub.text)
		out.parts += sub.parts
		out.depth = max(out.depth, sub.depth+1)
	}
	out.text = mark + "(" + strings.Join(texts, " ") + ")"
	return out
}

func tellAnd(list ...told) told { return tellList(api.EAnd, "&", list) }

func tellOr(list ...told) told { return tellList(api.EOr, "|", list) }

func tellNot(sub told) told {
	return told{not(sub.x), "!" + sub.text, sub.parts + 1, sub.depth + 1}
}

// mayBe tells whether an expression may be whose atoms do.
func (x told) mayBe() bool { return x.parts <= 40 && x.depth <= 8 }

// dice is a row of numbers, always the same one.
type dice uint64

func (d *dice) roll(n int) int {
	*d = *d*6364136223846793005 + 1442695040888963407
	return int(uint64(*d)>>33) % n
}

// grow lays any expression of at most that depth.
func grow(d *dice, sets []toldSet, depth int) told {
	kind := d.roll(5)
	if depth == 1 {
		kind = d.roll(3)
	}
	var list []told
	if depth > 1 {
		for range d.roll(4) {
			list = append(list, grow(d, sets, depth-1))
		}
	}
	switch {
	case kind == 1:
		return tellAnd(list...)
	case kind == 2:
		return tellOr(list...)
	case kind > 2:
		return tellNot(grow(d, sets, depth-1))
	}
	return tellAtom(d.roll(4), sets[d.roll(len(sets))])
}

// chain lays an expression of that depth, with one Sub at each step down.
func chain(depth int) told {
	x := tellAtom(3, toldSet{ints(r(-5, -1)), "[-5..-1]"})
	for i := 1; i < depth; i++ {
		switch i % 3 {
		case 0:
			x = tellAnd(x)
		case 1:
			x = tellOr(x)
		default:
			x = tellNot(x)
		}
	}
	return x
}

// nots lays an ENot of an ENot and so on, of that depth.
func nots(depth int) told {
	x := tellAtom(0, toldSet{ints(r(1, 1)), "[1]"})
	for range depth - 1 {
		x = tellNot(x)
	}
	return x
}

// atoms answers n atoms.
func atoms(n int) []told {
	var out []told
	for i := range n {
		digit := "0123456789"[i%10 : i%10+1]
		out = append(out, tellAtom(i%4, toldSet{ints(r(i%10, i%10)), "[" + digit + "]"}))
	}
	return out
}

// fewExprs are expressions of all shapes that may be.
func fewExprs() []told {
	a := tellAtom(0, toldSet{api.Set{Ints: []api.Range{r(1, 5)}, Strs: []string{"x"}}, "[1..5 'x']"})
	b := tellAtom(1, toldSet{api.Set{Absent: true}, "[-]"})
	c := tellAtom(2, toldSet{api.Set{Absent: true, Ints: []api.Range{r(-1, -1), r(3, 4)}, Co: true, Strs: []string{"", "a'b"}}, `[- -1 3..4 ~ '' 'a\27b']`})
	d := tellAtom(3, toldSet{api.Set{}, "[]"})
	out := []told{
		a, b, c, d, tellAnd(), tellOr(), tellAnd(a), tellOr(b), tellNot(a), tellNot(tellAnd()), tellNot(tellOr()), tellNot(tellAnd(a, b)), tellNot(tellOr(c, d, a)), tellNot(tellNot(c)),
		tellAnd(a, b, c, d), tellOr(d, c, b, a), tellAnd(a, a, a), tellOr(tellAnd(), tellOr()), tellAnd(tellOr(tellAnd(a, tellNot(b)), c), tellNot(tellOr(tellAnd(d), tellNot(tellNot(a)))), b),
		tellAnd(atoms(39)...), tellOr(atoms(39)...), tellNot(tellAnd(atoms(38)...)), tellAnd(tellOr(atoms(19)...), tellOr(atoms(18)...)),
	}
	for depth := range 8 {
		out = append(out, chain(depth+1), nots(depth+1))
	}
	return append(out, tellAnd(append(atoms(31), chain(7), d)...))
}

// manyExprs: those, and atoms of all sets, and many that are laid by chance, all of which may be.
func manyExprs() []told {
	sets := someSets()
	out := fewExprs()
	for i, s := range sets {
		out = append(out, tellAtom(i%4, s), tellNot(tellAtom((i+1)%4, s)), tellAnd(tellAtom((i+2)%4, s), tellAtom(i%3, sets[len(sets)-1-i])))
	}
	d := dice(7)
	for i := range 4000 {
		if x := grow(&d, sets, 1+i%8); x.mayBe() {
			out = append(out, x)
		}
	}
	for i := range 400 {
		var list []told
		for range i % 40 {
			list = append(list, tellAtom(d.roll(4), sets[d.roll(len(sets))]))
		}
		out = append(out, tellOr(list...))
	}
	return out
}

// toldEvent is an event and its text.
type toldEvent struct {
	e    api.Event
	text string
}

// values are values and their texts; the first one is absent.
func values() []struct {
	v    api.Value
	text string
} {
	return []struct {
		v    api.Value
		text string
	}{
		{}, {number(0), "0"}, {number(-3), "-3"}, {number(math.MaxInt), "9223372036854775807"}, {number(math.MinInt), "-9223372036854775808"},
		{str(""), "''"}, {str("}"), "'}'"}, {str("a'b"), `'a\27b'`}, {str("\x00\x1f\x7f\x80\xff\\ ~"), `'\00\1f\7f\80\ff\5c ~'`},
	}
}

// someEvents: events that are absent everywhere, nowhere, and at all places between.
func someEvents() []toldEvent {
	out := []toldEvent{{text: "{}"}}
	list := values()
	n := len(list)
	for i := 1; i < n*n*n*n; i++ {
		var x toldEvent
		var texts []string
		for attr, k := range []int{i % n, i / n % n, i / n / n % n, i / n / n / n} {
			x.e[attr] = list[k].v
			if k > 0 {
				texts = append(texts, "abcd"[attr:attr+1]+"="+list[k].text)
			}
		}
		x.text = "{" + strings.Join(texts, " ") + "}"
		out = append(out, x)
	}
	return out
}
