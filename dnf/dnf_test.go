package dnf_test

import (
	"slices"
	"testing"

	"arbour/api"
	"arbour/dnf"
)

// P6.1: all filters of up to three boxes; those of four and five are told one by one below.
func TestRightAllShortLists(t *testing.T) {
	lists := [][]masks{nil}
	for range 4 {
		var longer [][]masks
		for _, list := range lists {
			want := len(tidy(list)) == len(list)
			if f := boxesOf(list); dnf.Right(f) != want {
				t.Fatalf("Right(%v): not %v", f, want)
			}
			for _, m := range fewMasks() {
				longer = append(longer, append(slices.Clone(list), m))
			}
		}
		lists = longer
	}
}

// apart answers n boxes, none of which lies in another one.
func apart(n int) api.Filter {
	var f api.Filter
	for i := range n {
		f = append(f, with(i%api.Attrs, ints(r(i, i))))
	}
	return f
}

// P6.1
func TestRightHasAtMostFourBoxes(t *testing.T) {
	for n := range 40 {
		if f := apart(n); dnf.Right(f) != (n <= 4) {
			t.Errorf("Right of %d boxes: %v", n, n > 4)
		}
	}
	if !dnf.Right(api.Filter{}) {
		t.Error("Right of an empty list: false")
	}
	four := apart(4)
	for i := range four {
		for j := range four {
			f := slices.Clone(four)
			if f[i] = f[j]; dnf.Right(f) != (i == j) {
				t.Errorf("the boxes %d and %d the same: %v", i, j, i != j)
			}
		}
		for _, b := range []api.Box{{}, with(2, api.Set{}), all()} {
			f := slices.Clone(four)
			if f[i] = b; dnf.Right(f) {
				t.Errorf("Right(%v): true", f)
			}
		}
	}
}

// P6.1: each box of a filter must be right, and small.
func TestRightBoxes(t *testing.T) {
	for n := 1; n <= 4; n++ {
		for i := range n {
			for attr := range api.Attrs {
				check := func(s api.Set, want bool) {
					f := apart(n)
					f[i][attr] = s
					if dnf.Right(f) != want {
						t.Fatalf("Right(%v): not %v", f, want)
					}
				}
				for _, s := range fullSets() {
					check(s, true)
				}
				for _, s := range slices.Concat(greatSets(), wrongSets()) {
					check(s, false)
				}
			}
		}
	}
	for _, b := range wrongBoxes() {
		if dnf.Right(api.Filter{b}) {
			t.Errorf("Right(%v): true", b)
		}
	}
}

// manyEvents are events of each row of four pieces, with the bits of these.
func manyEvents(check func(e api.Event, at masks)) {
	for row := range pieces * pieces * pieces * pieces {
		var e api.Event
		var at masks
		rest := row
		for attr := range e {
			piece := rest % pieces
			rest /= pieces
			values := valuesOf(piece)
			e[attr] = values[(row+attr)%len(values)]
			at[attr] = 1 << piece
		}
		check(e, at)
	}
}

// P6.1: of filters of any length, those that aren't tidy among them.
func TestHas(t *testing.T) {
	d := dice(1)
	for n := range 60 {
		list := someMasks(&d, n%7)
		f := api.Filter(boxesOf(list))
		manyEvents(func(e api.Event, at masks) {
			want := slices.ContainsFunc(list, at.in)
			if dnf.Has(f, e) != want {
				t.Fatalf("Has(%v, %v): not %v", f, e, want)
			}
		})
	}
}

// P6.1
func TestHasEdges(t *testing.T) {
	f := api.Filter{with(0, ints(r(1, 5))), with(1, ints(r(7, 9)))}
	for _, c := range []struct {
		f    api.Filter
		e    api.Event
		want bool
	}{
		{nil, api.Event{}, false}, {api.Filter{}, api.Event{}, false}, {api.Filter{{}}, api.Event{}, false}, {api.Filter{all()}, api.Event{}, true},
		{f, api.Event{number(5)}, true}, {f, api.Event{number(6)}, false}, {f, api.Event{{}, number(7)}, true}, {f, api.Event{number(6), number(9)}, true},
		{f, api.Event{number(7), number(5)}, false}, {f, api.Event{number(1), number(7)}, true}, {f, api.Event{}, false}, {f[:1], api.Event{{}, number(7)}, false},
	} {
		if dnf.Has(c.f, c.e) != c.want {
			t.Errorf("Has(%v, %v): not %v", c.f, c.e, c.want)
		}
	}
	for _, v := range wrongValues() {
		for attr := range api.Attrs {
			e := api.Event{number(1), number(7), {}, str("x")}
			if e[attr] = v; dnf.Has(f, e) || dnf.Has(api.Filter{all()}, e) {
				t.Errorf("an event that mayn't be: %v", e)
			}
		}
	}
}

// P6.1
func TestSame(t *testing.T) {
	var lists []api.Filter
	for _, m := range fewMasks()[:7] {
		lists = append(lists, boxesOf([]masks{m}))
		for _, n := range fewMasks() {
			lists = append(lists, boxesOf([]masks{m, n}), boxesOf([]masks{n, m, m}))
		}
	}
	lists = append(lists, nil, api.Filter{}, apart(4), apart(5), apart(17))
	for _, b := range wrongBoxes() {
		lists = append(lists, api.Filter{b}, api.Filter{all(), b})
	}
	for _, a := range lists {
		for _, b := range lists {
			if want := equalLists(a, b); dnf.Same(a, b) != want {
				t.Fatalf("Same(%v, %v): not %v", a, b, want)
			}
		}
	}
}

// P6.1: the order counts, and each field of each set, but not whether a list is nil or empty.
func TestSameEdges(t *testing.T) {
	f := apart(4)
	if dnf.Same(f, api.Filter{f[1], f[0], f[2], f[3]}) || dnf.Same(f, f[:3]) || dnf.Same(f[:3], f) || dnf.Same(f, append(apart(4), all())) || !dnf.Same(f, apart(4)) {
		t.Error("four boxes")
	}
	if dnf.Same(nil, api.Filter{{}}) || !dnf.Same(nil, api.Filter{}) {
		t.Error("no boxes")
	}
	void := api.Set{Ints: []api.Range{}, Strs: []string{}}
	if !dnf.Same(api.Filter{{}}, api.Filter{{void, void, void, void}}) {
		t.Error("nil and an empty list")
	}
	base := api.Set{Absent: true, Ints: []api.Range{r(1, 2), r(4, 5)}, Strs: []string{"a", "b"}}
	for _, s := range []api.Set{
		{Ints: base.Ints, Strs: base.Strs}, {Absent: true, Ints: base.Ints, Co: true, Strs: base.Strs}, {Absent: true, Ints: base.Ints[:1], Strs: base.Strs},
		{Absent: true, Ints: []api.Range{r(1, 2), r(4, 6)}, Strs: base.Strs}, {Absent: true, Ints: base.Ints, Strs: []string{"a", "c"}},
	} {
		for attr := range api.Attrs {
			if a, b := (api.Filter{all(), with(attr, base)}), (api.Filter{all(), with(attr, s)}); dnf.Same(a, b) || !dnf.Same(a, a) {
				t.Errorf("Same(%v, %v): true", a, b)
			}
		}
	}
}

// P6.1: what they answer is told of right boxes alone, but none panics.
func TestNoPanicAtWrongBoxes(t *testing.T) {
	list := append(wrongBoxes(), api.Box{}, all())
	events := []api.Event{{}, {number(1), str("x")}, {{Kind: 7}}}
	for i, a := range list {
		for j := range list {
			f := api.Filter{a, list[j], list[(i+j)%len(list)], a}
			dnf.Tidy(f)
			dnf.Right(f[:2])
			dnf.Right(f)
			dnf.Same(f, f[1:])
			for _, e := range events {
				dnf.Has(f, e)
			}
		}
	}
	dnf.Tidy(list)
	dnf.Right(list)
	dnf.Same(list, list)
	dnf.Has(list, api.Event{})
}
