package expr_test

import (
	"slices"
	"testing"

	"arbour/api"
	"arbour/expr"
)

type step struct {
	depth int
	part  api.Expr
}

// steps is a second form of Walk.
func steps(x api.Expr, depth int) []step {
	out := []step{{depth, x}}
	for _, sub := range x.Sub {
		out = append(out, steps(sub, depth+1)...)
	}
	return out
}

func equalSteps(a, b step) bool { return a.depth == b.depth && equal(a.part, b.part) }

// walked gathers the first n steps of a walk, and then ends it.
func walked(walk func(func(int, api.Expr) bool), n int) []step {
	var out []step
	for depth, part := range walk {
		out = append(out, step{depth, part})
		if len(out) == n {
			break
		}
	}
	return out
}

// P5.3
func TestWalk(t *testing.T) {
	for i, x := range rightExprs() {
		want := steps(x, 0)
		if got := walked(expr.Walk(x), -1); !slices.EqualFunc(got, want, equalSteps) {
			t.Errorf("%d: Walk(%v): %v", i, x, got)
		}
	}
}

// P5.3: told one by one, so that the second form needn't be trusted.
func TestWalkExample(t *testing.T) {
	a, b, c := atom(0, ints(r(1, 5))), atom(1, ints(r(7, 7))), atom(2, ints(r(0, 9)))
	inner := or(b, not(c), and())
	x := and(a, inner, c)
	want := []step{{0, x}, {1, a}, {1, inner}, {2, b}, {2, not(c)}, {3, c}, {2, and()}, {1, c}}
	if got := walked(expr.Walk(x), -1); !slices.EqualFunc(got, want, equalSteps) {
		t.Errorf("Walk: %v", got)
	}
	if got := walked(expr.Walk(or()), -1); !slices.EqualFunc(got, []step{{0, or()}}, equalSteps) {
		t.Errorf("Walk(or()): %v", got)
	}
}

// P5.3: ended at each part, the first and the last among them; and taken again.
func TestWalkEnded(t *testing.T) {
	for i, x := range rightExprs() {
		want := steps(x, 0)
		walk := expr.Walk(x)
		for n := 1; n <= len(want); n++ {
			if got := walked(walk, n); !slices.EqualFunc(got, want[:n], equalSteps) {
				t.Fatalf("%d: the first %d of Walk(%v): %v", i, n, x, got)
			}
		}
		if got := walked(walk, -1); !slices.EqualFunc(got, want, equalSteps) {
			t.Fatalf("%d: Walk(%v), again: %v", i, x, got)
		}
	}
}

// P5.3: behind the answer false nothing is told any more.
func TestWalkEndedByItsAnswer(t *testing.T) {
	for i, x := range rightExprs() {
		walk := expr.Walk(x)
		for n := 1; n <= len(steps(x, 0)); n++ {
			calls := 0
			walk(func(int, api.Expr) bool {
				calls++
				return calls < n
			})
			if calls != n {
				t.Fatalf("%d: ended at part %d, told %d", i, n, calls)
			}
		}
	}
}

// P5.3
func TestWalkOfWrongExprs(t *testing.T) {
	for i, x := range wrongExprs() {
		for depth, part := range expr.Walk(x) {
			t.Fatalf("wrong expression %d: %d, %v", i, depth, part)
		}
	}
}

// P5.3: a walk within a walk.
func TestWalkWithinItself(t *testing.T) {
	x := and(or(atoms(3)...), not(or(atoms(2)...)))
	want := steps(x, 0)
	walk := expr.Walk(x)
	n := 0
	for range walk {
		if got := walked(walk, -1); !slices.EqualFunc(got, want, equalSteps) {
			t.Fatalf("within: %v", got)
		}
		n++
	}
	if n != len(want) {
		t.Errorf("%d parts", n)
	}
}

// P5.3: a walk tells what it was asked, whatever becomes of that, and of what it told.
func TestWalkStays(t *testing.T) {
	for i, y := range rightExprs() {
		want := steps(whole(y), 0)
		x := roomy(y)
		walk := expr.Walk(x)
		spoil(x)
		for range 2 {
			var got []step
			for depth, part := range walk {
				got = append(got, step{depth, whole(part)})
				spoil(part)
			}
			if len(got) != len(want) {
				t.Fatalf("%d: %d parts, not %d", i, len(got), len(want))
			}
			for k := range got {
				if got[k].depth != want[k].depth || !equal(got[k].part, want[k].part) {
					t.Fatalf("%d: part %d of Walk(%v): %v", i, k, y, got[k])
				}
			}
		}
	}
}
