package cover_test

import (
	"testing"

	"arbour/api"
	"arbour/cover"
	"arbour/pieces"
)

// P11.1, P11.2: of a filter that isn't right nothing is known, whichever of the two it is, and whatever the other one; but it was asked.
func TestWrongFilters(t *testing.T) {
	right := []api.Filter{nil, {all()}, one(0, 1, 5), pieces.Full(0)}
	j := cover.New(1000)
	count := 0
	check := func(a, b api.Filter) {
		t.Helper()
		if yes, known := j.Covers(a, b); yes || known {
			t.Errorf("%v covers %v: %v, %v", a, b, yes, known)
		}
		if yes, known := j.Same(a, b); yes || known {
			t.Errorf("%v is the same as %v: %v, %v", a, b, yes, known)
		}
		if got := j.Size(a, b); got != 0 {
			t.Errorf("%v, %v: the size %d", a, b, got)
		}
		count += 2
		if asked, unknown := j.Counts(); asked != count || unknown != count {
			t.Errorf("asked %d, unknown %d, not %d", asked, unknown, count)
		}
	}
	for _, f := range pieces.WrongFilters() {
		check(f, f)
		for _, g := range right {
			check(f, g)
			check(g, f)
		}
	}
}

// P11.2
func TestNilJudge(t *testing.T) {
	var j *cover.Judge
	for _, f := range []api.Filter{nil, {all()}, {{}}, one(0, 1, 5)} {
		if yes, known := j.Covers(f, f); yes || known {
			t.Errorf("Covers: %v, %v", yes, known)
		}
		if yes, known := j.Same(f, f); yes || known {
			t.Errorf("Same: %v, %v", yes, known)
		}
		if got := j.Size(f, f); got != 0 {
			t.Errorf("Size: %d", got)
		}
	}
	if asked, unknown := j.Counts(); asked != 0 || unknown != 0 {
		t.Errorf("asked %d, unknown %d", asked, unknown)
	}
}

// P11.1: the zero Judge is one of the budget 0.
func TestZeroJudge(t *testing.T) {
	j := new(cover.Judge)
	if yes, known := j.Same(one(0, 1, 5), one(0, 1, 5)); yes || known || j.Size(nil, one(0, 1, 5)) != 1 {
		t.Errorf("one node: %v, %v, the size %d", yes, known, j.Size(nil, one(0, 1, 5)))
	}
	if yes, known := j.Covers(api.Filter{all()}, nil); !yes || !known {
		t.Errorf("no node: %v, %v", yes, known)
	}
	if asked, unknown := j.Counts(); asked != 2 || unknown != 1 {
		t.Errorf("asked %d, unknown %d", asked, unknown)
	}
}
