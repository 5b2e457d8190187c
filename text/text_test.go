package text_test

import (
	"fmt"
	"math"
	"testing"

	"arbour/api"
	"arbour/text"
)

// P7.1
func TestSet(t *testing.T) {
	for _, c := range someSets() {
		if got := text.Set(c.s); got != c.text {
			t.Errorf("Set(%v): %q, not %q", c.s, got, c.text)
		}
	}
	for want, s := range map[string]api.Set{
		"[]":                          {},
		"[-]":                         {Absent: true},
		"[5]":                         ints(r(5, 5)),
		"[5..6]":                      ints(r(5, 6)),
		"[~]":                         others(),
		"['x']":                       strs("x"),
		"[~ 'x']":                     others("x"),
		"[- 1 3..4 ~ 'a' 'b']":        {Absent: true, Ints: []api.Range{r(1, 1), r(3, 4)}, Co: true, Strs: []string{"a", "b"}},
		"[- 'a']":                     {Absent: true, Strs: []string{"a"}},
		"[-1 'a']":                    {Ints: []api.Range{r(-1, -1)}, Strs: []string{"a"}},
		"[- -1]":                      {Absent: true, Ints: []api.Range{r(-1, -1)}},
		"[0 ~]":                       {Ints: []api.Range{r(0, 0)}, Co: true},
		"[-9223372036854775808]":      ints(r(math.MinInt, math.MinInt)),
		"[0..9223372036854775807]":    ints(r(0, math.MaxInt)),
		`['\00' '\1f' ' ' '~' '\7f']`: strs("\x00", "\x1f", " ", "~", "\x7f"),
	} {
		if got := text.Set(s); got != want {
			t.Errorf("Set(%v): %q, not %q", s, got, want)
		}
	}
	if got := text.Set(api.Set{Ints: []api.Range{}, Strs: []string{}}); got != "[]" {
		t.Errorf("Set of empty lists: %q", got)
	}
}

// P7.1: a right set has a text, be it small or not.
func TestSetOfGreatSets(t *testing.T) {
	var s api.Set
	numbers, names := "", ""
	for i := range 1000 {
		s.Ints = append(s.Ints, r(10*i, 10*i+1))
		s.Strs = append(s.Strs, fmt.Sprintf("%04d", i))
		numbers += fmt.Sprintf(" %d..%d", 10*i, 10*i+1)
		names += fmt.Sprintf(" '%04d'", i)
	}
	if got := text.Set(s); got != "["+numbers[1:]+names+"]" {
		t.Errorf("Set of %d ranges and strings: %q", len(s.Ints), got)
	}
}

// P7.1: each byte of a string, as value writes it.
func TestEachByte(t *testing.T) {
	for c := range 256 {
		one := string([]byte{byte(c)})
		want := "'" + one + "'"
		if c < 32 || c > 126 || c == '\'' || c == '\\' {
			want = fmt.Sprintf("'\\%02x'", c)
		}
		if got := text.Set(strs(one)); got != "["+want+"]" {
			t.Errorf("Set of byte %d: %q", c, got)
		}
		x := atom(2, strs(one))
		if got, err := text.Print(x); got != "c:["+want+"]" || err != api.OK {
			t.Errorf("Print of byte %d: %q, %d", c, got, err)
		}
		if got, err := text.Parse("c:[" + want + "]"); !equal(got, x) || err != api.OK {
			t.Errorf("Parse of byte %d: %v, %d", c, got, err)
		}
		e := api.Event{1: str(one)}
		if got, err := text.Event(e); got != "{b="+want+"}" || err != api.OK {
			t.Errorf("Event of byte %d: %q, %d", c, got, err)
		}
		if got, err := text.ReadEvent("{b=" + want + "}"); got != e || err != api.OK {
			t.Errorf("ReadEvent of byte %d: %v, %d", c, got, err)
		}
	}
}

// P7.1: each text told by hand.
func TestExprsByHand(t *testing.T) {
	one, gone := ints(r(1, 1)), api.Set{Absent: true}
	for want, x := range map[string]api.Expr{
		"a:[]":                           atom(0, api.Set{}),
		"a:[1..5 'x']":                   atom(0, api.Set{Ints: []api.Range{r(1, 5)}, Strs: []string{"x"}}),
		"b:[-]":                          atom(1, gone),
		"c:[~]":                          atom(2, others()),
		"d:[1]":                          atom(3, one),
		"&()":                            and(),
		"|()":                            or(),
		"!&()":                           not(and()),
		"!|()":                           not(or()),
		"!a:[1]":                         not(atom(0, one)),
		"!!a:[1]":                        not(not(atom(0, one))),
		"&(a:[1])":                       and(atom(0, one)),
		"|(b:[-] b:[-])":                 or(atom(1, gone), atom(1, gone)),
		"&(a:[1] !b:[-])":                and(atom(0, one), not(atom(1, gone))),
		"&(|() &())":                     and(or(), and()),
		"!|(&(a:[1] |()) !d:[1] !!c:[])": not(or(and(atom(0, one), or()), not(atom(3, one)), not(not(atom(2, api.Set{}))))),
		"!!!!!!!a:[1]":                   nots(8).x,
	} {
		if got, err := text.Print(x); got != want || err != api.OK {
			t.Errorf("Print(%v): %q, %d", x, got, err)
		}
		if got, err := text.Parse(want); !equal(got, x) || err != api.OK {
			t.Errorf("Parse(%q): %v, %d", want, got, err)
		}
	}
}

// P7.1, P7.3: what is printed is its text, and is read as it was.
func TestPrintAndParse(t *testing.T) {
	long := 0
	for _, c := range manyExprs() {
		got, err := text.Print(c.x)
		if len(c.text) > 1024 {
			long++
			if got != "" || err != api.ErrLong {
				t.Errorf("Print of what has %d bytes: %q, %d", len(c.text), got, err)
			}
			continue
		}
		if got != c.text || err != api.OK {
			t.Errorf("Print(%v): %q, %d", c.x, got, err)
		}
		checkParse(t, c.text)
		if x, err := text.Parse(c.text); !equal(x, c.x) || err != api.OK {
			t.Errorf("Parse(%q): %v, %d", c.text, x, err)
		}
	}
	if long == 0 {
		t.Error("none of them is too long")
	}
}

// P7.1: nil and an empty list are one.
func TestPrintOfEmptyLists(t *testing.T) {
	empty := api.Set{Ints: []api.Range{}, Strs: []string{}}
	for want, x := range map[string]api.Expr{
		"&()":        {Kind: api.EAnd, Set: empty, Sub: []api.Expr{}},
		"|()":        {Kind: api.EOr, Set: empty, Sub: []api.Expr{}},
		"a:[]":       {Kind: api.EAtom, Set: empty, Sub: []api.Expr{}},
		"!|(a:[-5])": {Kind: api.ENot, Set: empty, Sub: []api.Expr{{Kind: api.EOr, Sub: []api.Expr{{Kind: api.EAtom, Set: ints(r(-5, -5)), Sub: []api.Expr{}}}}}},
	} {
		if got, err := text.Print(x); got != want || err != api.OK {
			t.Errorf("Print(%v): %q, %d", x, got, err)
		}
	}
}

// P7.2, P7.3: events that are absent everywhere, nowhere, and between.
func TestEventAndReadEvent(t *testing.T) {
	for _, c := range someEvents() {
		if got, err := text.Event(c.e); got != c.text || err != api.OK {
			t.Fatalf("Event(%v): %q, %d", c.e, got, err)
		}
		if got, err := text.ReadEvent(c.text); got != c.e || err != api.OK {
			t.Fatalf("ReadEvent(%q): %v, %d", c.text, got, err)
		}
	}
	for want, e := range map[string]api.Event{
		"{}":                      {},
		"{a=1 c='x'}":             {number(1), {}, str("x"), {}},
		"{a=-3 d='}'}":            {number(-3), {}, {}, str("}")},
		"{b=0}":                   {{}, number(0)},
		"{a='' b='' c='' d=''}":   {str(""), str(""), str(""), str("")},
		"{a=1 b=2 c=-3 d=' a=1'}": {number(1), number(2), number(-3), str(" a=1")},
	} {
		if got, err := text.Event(e); got != want || err != api.OK {
			t.Errorf("Event(%v): %q, %d", e, got, err)
		}
		if got, err := text.ReadEvent(want); got != e || err != api.OK {
			t.Errorf("ReadEvent(%q): %v, %d", want, got, err)
		}
	}
}
