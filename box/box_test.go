package box_test

import (
	"slices"
	"testing"

	"arbour/api"
	"arbour/box"
)

// P4.1
func TestAll(t *testing.T) {
	got := box.All()
	if !equal(got, all()) || !box.Right(got) || !box.Small(got) || box.Empty(got) {
		t.Fatalf("All(): %v", got)
	}
}

// P4.1
func TestAtom(t *testing.T) {
	list := wrongSets()
	for mask := range allPieces + 1 {
		list = append(list, setOf(mask))
	}
	for _, s := range list {
		for attr := range api.Attrs {
			want := all()
			want[attr] = s
			if got := box.Atom(attr, s); !equal(got, want) {
				t.Fatalf("Atom(%d, %v): %v", attr, s, got)
			}
		}
		for _, attr := range wrongAttrs() {
			if got := box.Atom(attr, s); !equal(got, all()) {
				t.Fatalf("Atom(%d, %v): %v", attr, s, got)
			}
		}
	}
}

// P4.1
func TestWith(t *testing.T) {
	list := append(wrongBoxes(), api.Box{}, all())
	for _, m := range someMasks() {
		list = append(list, m.box())
	}
	sets := append(wrongSets(), api.Set{}, setOf(low|high|x), setOf(allPieces))
	for _, b := range list {
		for _, s := range sets {
			for attr := range api.Attrs {
				want := b
				want[attr] = s
				if got := box.With(b, attr, s); !equal(got, want) {
					t.Fatalf("With(%v, %d, %v): %v", b, attr, s, got)
				}
			}
			for _, attr := range wrongAttrs() {
				if got := box.With(b, attr, s); !equal(got, b) {
					t.Fatalf("With(%v, %d, %v): %v", b, attr, s, got)
				}
			}
		}
	}
}

// P4.1
func TestRight(t *testing.T) {
	for _, m := range someMasks() {
		if b := m.box(); !box.Right(b) {
			t.Fatalf("Right(%v): false", b)
		}
	}
	seven := ints(r(1, 1), r(3, 3), r(5, 5), r(7, 7), r(9, 9), r(11, 11), r(13, 13))
	for _, b := range []api.Box{{}, all(), {seven, seven, seven, seven}, {{Ints: []api.Range{}, Strs: []string{}}}} {
		if !box.Right(b) {
			t.Errorf("Right(%v): false", b)
		}
	}
	for _, b := range wrongBoxes() {
		if box.Right(b) {
			t.Errorf("Right(%v): true", b)
		}
	}
}

// P4.1
func TestSmall(t *testing.T) {
	six := []api.Range{r(1, 1), r(3, 3), r(5, 5), r(7, 7), r(9, 9), r(11, 11)}
	seven := append(slices.Clone(six), r(13, 13))
	names6 := []string{"a", "b", "c", "d", "e", "f"}
	names7 := append(slices.Clone(names6), "g")
	for attr := range api.Attrs {
		full := api.Set{Absent: true, Ints: six, Co: true, Strs: names6}
		for _, b := range []api.Box{{}, all(), {full, full, full, full}} {
			for _, s := range []api.Set{{}, ints(six...), strs(names6...), others(names6...), full, strs("longer than 8 bytes"), ints(r(2, 1))} {
				if b[attr] = s; !box.Small(b) {
					t.Errorf("Small(%v): false", b)
				}
			}
			for _, s := range []api.Set{ints(seven...), strs(names7...), others(names7...), {Ints: six, Strs: names7}, {Ints: seven, Strs: names6}, strs(make([]string, 7)...), ints(make([]api.Range, 7)...)} {
				if b[attr] = s; box.Small(b) {
					t.Errorf("Small(%v): true", b)
				}
			}
		}
	}
}

// P4.1
func TestSameAndDiffer(t *testing.T) {
	list := someMasks()
	for _, a := range list {
		for _, b := range list {
			checkDiffer(t, a, b)
		}
	}
}

// checkDiffer knows from the masks alone where two boxes differ, as each mask has a set of its own.
func checkDiffer(t *testing.T, a, b masks) {
	t.Helper()
	n, first := 0, -1
	for attr := api.Attrs - 1; attr >= 0; attr-- {
		if a[attr] != b[attr] {
			n, first = n+1, attr
		}
	}
	if gotN, gotFirst := box.Differ(a.box(), b.box()); gotN != n || gotFirst != first {
		t.Fatalf("Differ of %v and %v: %d, %d, not %d, %d", a, b, gotN, gotFirst, n, first)
	}
	if box.Same(a.box(), b.box()) != (n == 0) {
		t.Fatalf("Same of %v and %v: not %v", a, b, n == 0)
	}
}

// P4.1: a single field of a set is enough to differ.
func TestDifferByOneField(t *testing.T) {
	base := api.Set{Absent: true, Ints: []api.Range{r(1, 2), r(4, 5)}, Strs: []string{"a", "b"}}
	for i, s := range []api.Set{
		{Ints: base.Ints, Strs: base.Strs},
		{Absent: true, Ints: base.Ints, Co: true, Strs: base.Strs},
		{Absent: true, Ints: base.Ints[:1], Strs: base.Strs},
		{Absent: true, Ints: []api.Range{r(1, 2), r(4, 6)}, Strs: base.Strs},
		{Absent: true, Ints: base.Ints, Strs: base.Strs[:1]},
		{Absent: true, Ints: base.Ints, Strs: []string{"a", "c"}},
		{},
	} {
		for attr := range api.Attrs {
			a := api.Box{base, base, base, base}
			b := a
			b[attr] = s
			for _, pair := range [][2]api.Box{{a, b}, {b, a}} {
				if n, first := box.Differ(pair[0], pair[1]); n != 1 || first != attr || box.Same(pair[0], pair[1]) {
					t.Errorf("%d: Differ(%v, %v): %d, %d", i, pair[0], pair[1], n, first)
				}
			}
		}
	}
}

// P4.1: Same and Differ go by fields, of wrong boxes too, and hold nil and an empty list for one.
func TestDifferOfAnyBoxes(t *testing.T) {
	list := wrongBoxes()
	for _, a := range list {
		for _, b := range list {
			if n, _ := box.Differ(a, b); box.Same(a, b) != equal(a, b) || (n == 0) != equal(a, b) {
				t.Fatalf("Differ(%v, %v): %d", a, b, n)
			}
		}
	}
	void := api.Set{Ints: []api.Range{}, Strs: []string{}}
	if n, attr := box.Differ(api.Box{void, void, {}, void}, api.Box{}); n != 0 || attr != -1 {
		t.Errorf("nil and an empty list: %d, %d", n, attr)
	}
	// The same values, but other fields.
	a, b := box.Atom(2, ints(r(1, 4))), box.Atom(2, ints(r(1, 2), r(3, 4)))
	if n, attr := box.Differ(a, b); n != 1 || attr != 2 || box.Same(a, b) {
		t.Errorf("1 to 4, and 1 to 2 and 3 to 4: %d, %d", n, attr)
	}
}

// P4.1, P4.2
func TestExample(t *testing.T) {
	a, b := box.Atom(0, ints(r(1, 5))), box.Atom(1, strs("x"))
	both := box.And(a, b)
	want := all()
	want[0], want[1] = ints(r(1, 5)), strs("x")
	if !equal(both, want) {
		t.Fatalf("And: %v", both)
	}
	for _, c := range []struct {
		e    api.Event
		want bool
	}{
		{api.Event{number(1), str("x"), {}, {}}, true},
		{api.Event{number(5), str("x"), number(-3), str("")}, true},
		{api.Event{number(0), str("x"), {}, {}}, false},
		{api.Event{number(6), str("x"), {}, {}}, false},
		{api.Event{number(1), str("y"), {}, {}}, false},
		{api.Event{number(1), {}, {}, {}}, false},
		{api.Event{str("x"), number(1), {}, {}}, false},
		{api.Event{}, false},
	} {
		if box.Has(both, c.e) != c.want {
			t.Errorf("Has(%v): not %v", c.e, c.want)
		}
	}
	if n, attr := box.Differ(a, b); n != 2 || attr != 0 {
		t.Errorf("Differ: %d, %d", n, attr)
	}
}
