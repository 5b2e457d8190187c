package value_test

import (
	"math"
	"strings"
	"testing"

	"arbour/api"
	"arbour/value"
)

func number(n int) api.Value { return api.Value{Kind: api.Int, N: n} }

func str(s string) api.Value { return api.Value{Kind: api.Str, S: s} }

func eventWith(attr int, v api.Value) api.Event {
	var e api.Event
	e[attr] = v
	return e
}

func rightValues() []api.Value {
	return []api.Value{
		{}, number(0), number(1), number(-1), number(math.MaxInt), number(math.MinInt),
		str(""), str("a"), str("12345678"), str("\x00\xff'\\"),
	}
}

func wrongValues() []api.Value {
	return []api.Value{
		{N: 1}, {N: -1}, {S: "a"}, {N: 1, S: "a"},
		{Kind: api.Int, S: "a"}, {Kind: api.Int, N: 7, S: "7"},
		{Kind: api.Str, N: 1}, {Kind: api.Str, N: -1, S: "a"},
		str("123456789"), str(strings.Repeat("x", 1000)),
		{Kind: -1}, {Kind: 3}, {Kind: 3, N: 1}, {Kind: math.MaxInt}, {Kind: math.MinInt},
	}
}

// P1.1
func TestRight(t *testing.T) {
	for _, v := range rightValues() {
		if !value.Right(v) {
			t.Errorf("Right(%#v): false", v)
		}
	}
	for _, v := range wrongValues() {
		if value.Right(v) {
			t.Errorf("Right(%#v): true", v)
		}
	}
}

// P1.1
func TestEvent(t *testing.T) {
	if !value.Event(api.Event{}) {
		t.Error("the event of nothing may be")
	}
	if !value.Event(api.Event{number(1), str("12345678"), {}, number(math.MinInt)}) {
		t.Error("an event of right values may be")
	}
	for attr := range api.Attrs {
		for _, v := range rightValues() {
			if !value.Event(eventWith(attr, v)) {
				t.Errorf("%#v at %d: false", v, attr)
			}
		}
		for _, v := range wrongValues() {
			if value.Event(eventWith(attr, v)) {
				t.Errorf("%#v at %d: true", v, attr)
			}
		}
	}
}

// P1.1
func TestOrderOfAll(t *testing.T) {
	rising := []api.Value{
		{Kind: math.MinInt}, {Kind: -1},
		{},
		number(math.MinInt), number(-5), number(-1), number(0), number(1), number(10), number(math.MaxInt),
		str(""), str("\x00"), str("\x00a"), str("1"), str("A"), str("a"), str("a\x00"), str("aa"), str("ab"), str("b"),
		str("\x7f"), str("\x80"), str("\u00e9"), str("\xff"), str("\xff\x00"),
		{Kind: 3}, {Kind: math.MaxInt},
	}
	for i, a := range rising {
		for j, b := range rising {
			want := 0
			if i < j {
				want = -1
			} else if i > j {
				want = 1
			}
			if got := value.Order(a, b); got != want {
				t.Errorf("Order(%#v, %#v): %d, not %d", a, b, got, want)
			}
		}
	}
}

// P1.1
func TestOrderOfOtherKindsIsByKindAlone(t *testing.T) {
	if got := value.Order(api.Value{Kind: 3, N: 1, S: "a"}, api.Value{Kind: 3, N: 2, S: "b"}); got != 0 {
		t.Errorf("the same kind: %d", got)
	}
	if got := value.Order(api.Value{Kind: 3, N: 9, S: "z"}, api.Value{Kind: 4}); got != -1 {
		t.Errorf("a lesser kind: %d", got)
	}
	if got := value.Order(api.Value{Kind: -1, N: 9, S: "z"}, api.Value{Kind: -2}); got != 1 {
		t.Errorf("a greater kind: %d", got)
	}
}
