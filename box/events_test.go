package box_test

import (
	"testing"

	"arbour/api"
	"arbour/box"
	"arbour/set"
)

// manyEvents calls check with events of each row of four pieces, and says whether a box of those masks should have each.
func manyEvents(m masks, check func(e api.Event, want bool)) {
	for row := range pieces * pieces * pieces * pieces {
		var e api.Event
		want := true
		rest := row
		for attr := range e {
			piece := rest % pieces
			rest /= pieces
			values := valuesOf(piece)
			e[attr] = values[(row+attr)%len(values)]
			want = want && m[attr]>>piece&1 == 1
		}
		check(e, want)
	}
}

// P4.2
func TestHas(t *testing.T) {
	for _, m := range someMasks() {
		b := m.box()
		manyEvents(m, func(e api.Event, want bool) {
			if box.Has(b, e) != want {
				t.Fatalf("Has(%v, %v): not %v", b, e, want)
			}
		})
	}
}

// P4.2: a value that mayn't be, in any place, is enough.
func TestHasNoWrongEvents(t *testing.T) {
	full := api.Event{number(1), str("x"), {}, str("abcdefgh")}
	boxes := []api.Box{all(), box.Atom(0, ints(r(1, 5))), box.Atom(3, others("x")), box.Atom(2, api.Set{Absent: true})}
	for _, b := range boxes {
		if !box.Has(b, full) {
			t.Fatalf("Has(%v, %v): false", b, full)
		}
		for attr := range api.Attrs {
			for _, v := range wrongValues() {
				e := full
				e[attr] = v
				if box.Has(b, e) || box.Has(b, api.Event{v, v, v, v}) {
					t.Errorf("Has(%v, %v): true", b, e)
				}
			}
		}
	}
}

// P4.2: as each of these sets is laid in one form alone, the boxes of And are known field by field.
func TestAndEmptyIn(t *testing.T) {
	list := someMasks()
	for _, a := range list {
		for _, b := range list {
			checkPair(t, a, b)
		}
	}
}

func checkPair(t *testing.T, a, b masks) {
	t.Helper()
	var and masks
	empty, in := false, true
	for attr := range and {
		and[attr] = a[attr] & b[attr]
		empty = empty || a[attr] == 0
		in = in && a[attr]&^b[attr] == 0
	}
	boxA, boxB := a.box(), b.box()
	if got := box.And(boxA, boxB); !equal(got, and.box()) || !box.Right(got) {
		t.Fatalf("And(%v, %v): %v", boxA, boxB, got)
	}
	if box.Empty(boxA) != empty {
		t.Fatalf("Empty(%v): not %v", boxA, empty)
	}
	if box.In(boxA, boxB) != (empty || in) {
		t.Fatalf("In(%v, %v): not %v", boxA, boxB, empty || in)
	}
}

// P4.2: each set that can be laid of the pieces, against each, in each place.
func TestPairsOfAtoms(t *testing.T) {
	for attr := range api.Attrs {
		for a := range allPieces + 1 {
			for b := range allPieces + 1 {
				rowA, rowB := masks{allPieces, allPieces, allPieces, allPieces}, masks{allPieces, allPieces, allPieces, allPieces}
				rowA[attr], rowB[attr] = a, b
				checkPair(t, rowA, rowB)
				checkDiffer(t, rowA, rowB)
			}
		}
	}
}

// P4.2
func TestEmptyBoxes(t *testing.T) {
	void := api.Set{Ints: []api.Range{}, Strs: []string{}}
	for attr := range api.Attrs {
		for _, s := range []api.Set{{}, void} {
			b := box.Atom(attr, s)
			if !box.Empty(b) || !box.Right(b) || !box.In(b, api.Box{}) || !box.In(b, b) || !box.In(b, all()) {
				t.Errorf("a box without events: %v", b)
			}
			for other := range api.Attrs {
				if c := box.Atom(other, ints(r(1, 1))); !box.In(b, c) || box.In(c, b) {
					t.Errorf("an empty box and one of events: %v, %v", b, c)
				}
			}
		}
		for _, s := range []api.Set{{Absent: true}, ints(r(0, 0)), strs(""), others(), others("", "a")} {
			if b := box.Atom(attr, s); box.Empty(b) {
				t.Errorf("Empty(%v)", b)
			}
		}
	}
	if !box.Empty(api.Box{}) || !box.In(api.Box{}, api.Box{}) || !box.In(api.Box{}, all()) || box.In(all(), api.Box{}) {
		t.Error("the box of empty sets")
	}
}

// eventsOf answers, event by event, which of them a box has.
func eventsOf(b api.Box) []bool {
	var out []bool
	manyEvents(masks{}, func(e api.Event, _ bool) { out = append(out, box.Has(b, e)) })
	return out
}

// P4.2: In and And told by events alone.
func TestInAndAndByEvents(t *testing.T) {
	list := manyMasks(0, low|middle, middle|x|notX)
	events := make([][]bool, len(list))
	for i, m := range list {
		events[i] = eventsOf(m.box())
	}
	for i, a := range list {
		for j, b := range list {
			in := true
			and := eventsOf(box.And(a.box(), b.box()))
			for k := range and {
				in = in && (!events[i][k] || events[j][k])
				if and[k] != (events[i][k] && events[j][k]) {
					t.Fatalf("And of %v and %v: event %d", a, b, k)
				}
			}
			if box.In(a.box(), b.box()) != in {
				t.Fatalf("In of %v and %v: not %v", a, b, in)
			}
		}
	}
}

// P4.3
func TestBothSetsTogether(t *testing.T) {
	base := manyMasks(middle, absent|notX)
	for _, m := range base {
		for attr := range api.Attrs {
			for _, other := range []int{0, absent, low | x, middle | high, notX, allPieces} {
				n := m
				n[attr] = other
				checkTogether(t, m.box(), n.box(), attr)
			}
		}
	}
}

func checkTogether(t *testing.T, a, b api.Box, attr int) {
	t.Helper()
	if n, at := box.Differ(a, b); n != 1 || at != attr {
		t.Fatalf("Differ(%v, %v): %d, %d", a, b, n, at)
	}
	both := box.With(a, attr, set.Or(a[attr], b[attr]))
	eventsA, eventsB := eventsOf(a), eventsOf(b)
	for k, has := range eventsOf(both) {
		if has != (eventsA[k] || eventsB[k]) {
			t.Fatalf("%v and %v together at %d: event %d", a, b, attr, k)
		}
	}
}

// P4.2: what they answer is not told, but none panics.
func TestNoPanicAtWrongBoxes(t *testing.T) {
	list := append(wrongBoxes(), api.Box{}, all())
	for _, a := range list {
		box.Empty(a)
		for _, v := range append(wrongValues(), number(1), str("x"), api.Value{}) {
			box.Has(a, api.Event{v, v, v, v})
		}
		for _, b := range list {
			box.And(a, b)
			box.In(a, b)
		}
	}
}
