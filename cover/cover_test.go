package cover_test

import (
	"math"
	"testing"

	"arbour/api"
	"arbour/cover"
	"arbour/dnf"
	"arbour/pieces"
)

func one(attr, lo, hi int) api.Filter { return api.Filter{with(attr, ints(r(lo, hi)))} }

// chain answers the filter whose diagram has a node for each of the first attributes.
func chain(size int) api.Filter {
	b := all()
	for attr := range size {
		b[attr] = ints(r(1, 5))
	}
	return api.Filter{b}
}

// P11.1
func TestExamples(t *testing.T) {
	nine, three := one(0, 1, 9), one(0, 2, 3)
	j := cover.New(1)
	if yes, known := j.Covers(nine, three); !yes || !known {
		t.Errorf("1 to 9 covers 2 to 3: %v, %v", yes, known)
	}
	if yes, known := j.Covers(three, nine); yes || !known {
		t.Errorf("2 to 3 covers 1 to 9: %v, %v", yes, known)
	}
	j = cover.New(0)
	for _, f := range []api.Filter{three, nine} {
		if yes, known := j.Covers(nine, f); yes || known {
			t.Errorf("within 0: %v, %v", yes, known)
		}
	}
	if asked, unknown := j.Counts(); asked != 2 || unknown != 2 {
		t.Errorf("asked %d, unknown %d", asked, unknown)
	}
}

// P11.1: the judge knows from the greater one of the sizes on, whichever of the two has it.
func TestEachBudget(t *testing.T) {
	filters := []api.Filter{nil, chain(0), chain(1), chain(2), chain(3), chain(4), pieces.Full(0)[:2], pieces.Full(0)[:3], pieces.Full(0)}
	sizes := []int{0, 0, 1, 2, 3, 4, 10, 22, 46}
	for a, f := range filters {
		for b, g := range filters {
			size := max(sizes[a], sizes[b])
			for _, budget := range []int{math.MinInt, -1, 0, 1, size - 1, size, size + 1, 45, 46, math.MaxInt} {
				j := cover.New(budget)
				_, covers := j.Covers(f, g)
				_, same := j.Same(f, g)
				if want := size <= max(budget, 0); covers != want || same != want {
					t.Errorf("a budget of %d, sizes %d and %d: known %v and %v", budget, sizes[a], sizes[b], covers, same)
				}
				if got := j.Size(f, g); got != size {
					t.Errorf("a budget of %d: the size %d, not %d", budget, got, size)
				}
			}
		}
	}
}

// P11.1, P11.3: filters of no size are known of within 0: those that have no event, and each one, however many boxes they are.
func TestBudgetOfZero(t *testing.T) {
	two := api.Filter{with(2, ints(r(5, 5))), with(2, api.Set{Absent: true, Ints: []api.Range{r(math.MinInt, 4), r(6, math.MaxInt)}, Co: true})}
	three := api.Filter{with(0, api.Set{Absent: true}), with(0, ints(r(math.MinInt, math.MaxInt))), with(0, others())}
	each := []api.Filter{{all()}, two, three}
	for _, budget := range []int{0, -1, math.MinInt} {
		j := cover.New(budget)
		for i, f := range each {
			for k, g := range each {
				if yes, known := j.Covers(f, g); !yes || !known {
					t.Errorf("%d covers %d: %v, %v", i, k, yes, known)
				}
				if yes, known := j.Same(f, g); !yes || !known {
					t.Errorf("%d is the same as %d: %v, %v", i, k, yes, known)
				}
			}
			checkNone(t, j, f)
		}
		if asked, unknown := j.Counts(); asked != 30 || unknown != 0 {
			t.Errorf("asked %d, unknown %d", asked, unknown)
		}
	}
}

// checkNone holds a filter that has each event against one that has none.
func checkNone(t *testing.T, j *cover.Judge, f api.Filter) {
	t.Helper()
	if yes, known := j.Covers(f, nil); !yes || !known {
		t.Errorf("%v covers none: %v, %v", f, yes, known)
	}
	if yes, known := j.Covers(api.Filter{}, f); yes || !known {
		t.Errorf("none covers %v: %v, %v", f, yes, known)
	}
	if yes, known := j.Same(nil, f); yes || !known {
		t.Errorf("none is the same as %v: %v, %v", f, yes, known)
	}
	if yes, known := j.Same(api.Filter{}, nil); !yes || !known {
		t.Errorf("none is the same as none: %v, %v", yes, known)
	}
}

// P11.1: at the edges of numbers and strings.
func TestEdges(t *testing.T) {
	each := func(s api.Set) api.Filter { return api.Filter{with(3, s)} }
	for i, c := range []struct {
		a, b         api.Set
		covers, back bool
	}{
		{ints(r(math.MinInt, math.MaxInt)), ints(r(math.MinInt, math.MinInt), r(math.MaxInt, math.MaxInt)), true, false},
		{ints(r(math.MinInt, math.MaxInt-1)), ints(r(math.MaxInt, math.MaxInt)), false, false},
		{ints(r(1, 5), r(7, 9)), ints(r(1, 9)), false, true},
		{ints(r(1, 5)), ints(r(1, 5)), true, true},
		{ints(r(1, 5)), ints(r(2, 6)), false, false},
		{ints(r(1, 5)), ints(r(1, 6)), false, true},
		{others(), strs("", "abcdefgh", "\xff"), true, false},
		{others("x"), strs("x"), false, false},
		{others("x"), strs("x", "y"), false, false},
		{others("x"), others("x", "y"), true, false},
		{others("x"), others(), false, true},
		{strs("x"), strs("x", "y"), false, true},
		{strs("a"), strs("A"), false, false},
		{api.Set{Absent: true}, ints(r(0, 0)), false, false},
		{api.Set{Absent: true, Strs: []string{""}}, strs(""), true, false},
	} {
		j := cover.New(1)
		if yes, known := j.Covers(each(c.a), each(c.b)); yes != c.covers || !known {
			t.Errorf("%d: %v covers %v: %v, %v", i, c.a, c.b, yes, known)
		}
		if yes, known := j.Covers(each(c.b), each(c.a)); yes != c.back || !known {
			t.Errorf("%d: %v covers %v: %v, %v", i, c.b, c.a, yes, known)
		}
		if yes, known := j.Same(each(c.a), each(c.b)); yes != (c.covers && c.back) || !known {
			t.Errorf("%d: %v is the same as %v: %v, %v", i, c.a, c.b, yes, known)
		}
	}
}

// P11.1: boxes together may have what none of them has.
func TestBoxesTogether(t *testing.T) {
	// a: 1 to 9 in two parts at b, each of them wider at a than the box that they cover.
	parts := api.Filter{with(0, ints(r(0, 9))), with(0, ints(r(1, 12)))}
	parts[0][1], parts[1][1] = ints(r(math.MinInt, 4)), api.Set{Absent: true, Ints: []api.Range{r(5, math.MaxInt)}, Co: true}
	j := cover.New(api.Beta)
	if yes, known := j.Covers(parts, one(0, 1, 9)); !yes || !known {
		t.Errorf("together: %v, %v", yes, known)
	}
	if yes, known := j.Covers(parts, one(0, 0, 9)); yes || !known {
		t.Errorf("together, and one more: %v, %v", yes, known)
	}
	if yes, known := j.Covers(one(0, 0, 12), parts); !yes || !known {
		t.Errorf("the other way round: %v, %v", yes, known)
	}
}

// P11.3: with the budget of Beta there is no right filter of which it doesn't know.
func TestBudgetOfBeta(t *testing.T) {
	f, g := pieces.Full(0), pieces.Full(100)
	for _, budget := range []int{api.Beta, api.Beta + 1, math.MaxInt} {
		j := cover.New(budget)
		if yes, known := j.Covers(f, g); yes || !known || j.Size(f, g) != api.Beta {
			t.Errorf("%v, %v, the size %d", yes, known, j.Size(f, g))
		}
		for n := range len(f) + 1 {
			if yes, known := j.Covers(f, f[:n]); !yes || !known {
				t.Errorf("covers %d of its boxes: %v, %v", n, yes, known)
			}
			if yes, known := j.Covers(f[:n], f); yes != (n == len(f)) || !known {
				t.Errorf("%d of its boxes cover it: %v, %v", n, yes, known)
			}
			if yes, known := j.Same(f[:n], f); yes != (n == len(f)) || !known {
				t.Errorf("%d of its boxes are the same: %v, %v", n, yes, known)
			}
		}
	}
	if !dnf.Right(f) || !dnf.Right(g) {
		t.Error("filters that aren't right")
	}
}
