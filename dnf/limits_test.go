package dnf_test

import (
	"slices"
	"testing"

	"arbour/api"
	"arbour/dnf"
)

// points are n atoms of an attribute, each of one number.
func points(attr, n int) []api.Expr {
	var out []api.Expr
	for i := range n {
		out = append(out, atom(attr, ints(r(10*i, 10*i))))
	}
	return out
}

func nots(list []api.Expr) []api.Expr {
	var out []api.Expr
	for _, y := range list {
		out = append(out, not(y))
	}
	return out
}

// limit is an expression, and how many boxes it has; or -1, if that is ErrBig.
type limit struct {
	x    api.Expr
	want int
}

func checkLimits(t *testing.T, list []limit) {
	t.Helper()
	for i, c := range list {
		f, err := dnf.Of(c.x)
		if c.want < 0 {
			if err != api.ErrBig || f != nil {
				t.Errorf("%d: %d boxes, %d, not ErrBig", i, len(f), err)
			}
		} else if err != api.OK || len(f) != c.want || !dnf.Right(f) {
			t.Errorf("%d: %d boxes, %d, not %d", i, len(f), err, c.want)
		}
	}
}

// P6.1: a filter of four boxes, and of five; by sums, by products, and by nots of either.
func TestFourBoxesAndFive(t *testing.T) {
	checkLimits(t, []limit{
		{or(points(0, 4)...), 4}, {or(points(0, 5)...), -1}, {or(append(points(0, 4), points(0, 4)...)...), 4}, {or(or(points(0, 2)...), or(points(1, 2)...)), 4}, {or(or(points(0, 2)...), or(points(1, 3)...)), -1},
		{and(or(points(0, 2)...), or(points(1, 2)...)), 4}, {and(or(points(0, 5)...)), -1}, {and(or(points(0, 3)...), or(points(1, 2)...)), -1}, {and(or(points(0, 5)...), or(points(0, 4)...)), 4}, {and(or(points(0, 5)...), or(points(0, 5)...)), -1},
		{not(and(nots(points(3, 4))...)), 4}, {not(and(nots(points(3, 5))...)), -1}, {not(or(not(or(points(0, 2)...)), not(or(points(1, 2)...)))), 4}, {not(or(not(or(points(0, 3)...)), not(or(points(1, 2)...)))), -1},
		{or(append(points(0, 5), atom(0, ints(r(0, 10))))...), 4}, {or(append(points(0, 16), atom(0, ints(r(0, 120))))...), 4}, {or(append(points(0, 16), atom(0, ints(r(0, 110))))...), -1},
	})
}

// sumOf has n boxes, as a sum.
func sumOf(n int) api.Expr { return or(points(0, n)...) }

// P6.1: sums of 16 boxes and of 17 on the way, which are brought down to a few, to none, or to one of all.
func TestSumsOnTheWay(t *testing.T) {
	few, none := atom(0, ints(r(0, 20))), atom(0, api.Set{})
	for i, want := range []int{3, -1, -1} {
		n := 16 + i
		checkLimits(t, []limit{
			{and(sumOf(n), few), want}, {and(few, sumOf(n)), want}, {and(not(not(sumOf(n))), few), want}, {and(not(and(nots(points(0, n))...)), few), want},
			{not(or(not(sumOf(n)), not(few))), want}, {and(or(or(points(0, n-1)...), atom(1, ints(r(1, 1)))), few, atom(1, ints(r(2, 2)))), want},
		})
		// Nothing hangs on it any more, but it is too much where it stands.
		checkLimits(t, []limit{
			{and(sumOf(n), none), min(want, 0)}, {and(none, sumOf(n)), min(want, 0)}, {and(or(), sumOf(n)), min(want, 0)}, {and(sumOf(n), or()), min(want, 0)},
			{or(and(), sumOf(n)), min(want, 1)}, {or(sumOf(n), and()), min(want, 1)}, {or(append(points(0, n), and())...), min(want, 1)}, {not(and(append(nots(points(0, n)), or())...)), min(want, 1)},
		})
	}
	checkLimits(t, []limit{
		{or(append([]api.Expr{and()}, points(0, 30)...)...), 1}, {and(or(points(0, 16)...), atom(0, ints(r(10, 20)))), 2},
		{and(or(slices.Concat(points(0, 16), points(0, 16), []api.Expr{none})...), few), 3}, {or(sumOf(16), atom(0, ints(r(0, 150)))), 1}, {or(sumOf(9), or(points(1, 8)...), and()), -1}, {or(sumOf(8), or(points(1, 8)...), and()), 1},
		{and(or(append(points(0, 16), few)...), few), 1}, {or(append(points(0, 15), few, atom(1, ints(r(1, 1))), and())...), 1},
	})
}

// P6.1: products of 16 boxes and of 17 or more on the way.
func TestProductsOnTheWay(t *testing.T) {
	one := and(atom(0, ints(r(0, 0))), atom(1, ints(r(0, 0))))
	a1, b1 := atom(0, ints(r(0, 0))), atom(1, ints(r(0, 0)))
	a2, b2 := atom(0, ints(r(1, 1))), atom(1, ints(r(1, 1)))
	cs := points(2, 9)
	zero := atom(2, ints(r(0, 0)))
	checkLimits(t, []limit{
		{and(or(points(0, 4)...), or(points(1, 4)...), one), 1}, {and(or(points(0, 2)...), or(points(1, 8)...), one), 1}, {and(or(points(0, 3)...), or(points(1, 6)...), one), -1}, {and(one, or(points(0, 3)...), or(points(1, 6)...)), 1},
		{and(or(a1, b1), or(append(slices.Clone(cs[:7]), a2, b2)...), zero), 2}, {and(or(a1, b1), or(append(slices.Clone(cs[:8]), a2)...), zero), -1}, {and(or(a1, b1), or(append(slices.Clone(cs[:7]), a2, a1)...), zero), 2},
		{and(or(points(0, 16)...), or(points(0, 16)...), a1), 1}, {and(or(points(0, 16)...), or(points(1, 1)...), or(points(0, 3)...)), 3}, {and(or(points(0, 16)...), or(points(1, 2)...), or()), -1}, {and(or(points(0, 16)...), or(), or(points(1, 2)...)), 0},
		{not(or(and(nots(points(0, 4))...), and(nots(points(1, 4))...), not(one))), 1}, {not(or(and(nots(points(0, 3))...), and(nots(points(1, 6))...), not(one))), -1},
		{or(and(), and(or(points(0, 3)...), or(points(1, 6)...))), -1}, {or(and(), and(or(points(0, 4)...), or(points(1, 4)...))), 1}, {and(or(), and(or(points(0, 3)...), or(points(1, 6)...))), -1},
	})
}

// P6.1: a filter's boxes must be small, those on the way need not.
func TestBoxesThatAreNotSmall(t *testing.T) {
	var texts []api.Expr
	for i := range 7 {
		texts = append(texts, atom(1, strs(string(rune('a'+i)))))
	}
	six := ints(r(0, 0), r(10, 10), r(20, 20), r(30, 30), r(40, 40), r(50, 50))
	upTo20, a := atom(0, ints(r(0, 20))), atom(1, others("a"))
	checkLimits(t, []limit{
		{and(nots(points(0, 5))...), 1}, {and(nots(points(0, 6))...), -1}, {and(nots(points(0, 7))...), -1}, {not(or(points(0, 5)...)), 1}, {not(or(points(0, 6)...)), -1},
		{and(append(nots(points(0, 6)), upTo20)...), 1}, {and(append([]api.Expr{upTo20}, nots(points(0, 6))...)...), 1}, {and(append(nots(points(0, 18)), upTo20)...), 1},
		{and(nots(texts[:6])...), 1}, {and(nots(texts)...), -1}, {not(or(texts[:6]...)), 1}, {not(or(texts...)), -1}, {and(append(nots(texts), atom(1, strs("a", "g", "h")))...), 1}, {and(append(nots(texts), atom(1, ints(r(1, 1))))...), 1},
		{atom(0, six), 1}, {not(atom(0, six)), -1}, {not(not(atom(0, six))), 1}, {and(not(atom(0, six)), upTo20), 1}, {not(atom(0, ints(six.Ints[:5]...))), 1}, {not(atom(0, ints(append(six.Ints[:5:5], r(50, 1<<63-1))...))), 1},
		{or(upTo20, not(atom(0, six))), -1}, {or(not(atom(0, six)), and()), 1}, {or(and(), not(atom(0, six))), 1}, {or(not(atom(0, six)), a), -1}, {or(a, and(a, not(atom(0, six)))), 1}, {and(not(atom(0, six)), or()), 0},
	})
}

// P6.1: where an expression mayn't be, and is too much, that it mayn't be is told.
func TestErrFormIsAheadOfErrBig(t *testing.T) {
	for i, y := range []api.Expr{or(points(0, 40)...), or(append(points(0, 20), atom(4, api.Set{}))...), or(append(points(0, 5), api.Expr{Kind: 9})...), and(append(nots(points(0, 7)), not())...), or(or(points(0, 17)...), chain(8))} {
		if f, err := dnf.Of(y); err != api.ErrForm || f != nil {
			t.Errorf("%d: %v, %d", i, f, err)
		}
	}
}
