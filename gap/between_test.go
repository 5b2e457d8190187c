package gap_test

import (
	"math"
	"math/big"
	"testing"

	"arbour/api"
	"arbour/gap"
)

// P12.2
func TestBetweenExamples(t *testing.T) {
	for i, c := range []struct {
		a, b api.Range
		want uint64
		ok   bool
	}{
		{r(1, 5), r(9, 12), 2, true}, {r(1, 5), r(8, 12), 1, true}, {r(1, 5), r(7, 12), 1, true}, {r(1, 5), r(6, 12), 0, true}, {r(1, 5), r(10, 10), 2, true},
		{r(1, 5), r(5, 12), 0, false}, {r(1, 5), r(3, 4), 0, false}, {r(9, 12), r(1, 5), 0, false}, {r(1, 5), r(1, 5), 0, false},
		{r(5, 1), r(9, 12), 0, false}, {r(1, 5), r(12, 9), 0, false}, {r(5, 1), r(12, 9), 0, false}, {r(2, 1), r(9, 9), 0, false}, {r(1, 1), r(10, 9), 0, false},
		{r(math.MinInt, math.MinInt), r(math.MaxInt, math.MaxInt), 1<<63 - 1, true}, {r(math.MinInt, -1), r(1, math.MaxInt), 1, true},
		{r(math.MinInt, math.MinInt), r(0, 0), 1 << 62, true}, {r(-1, 0), r(math.MaxInt, math.MaxInt), 1<<62 - 1, true}, {r(-1, -1), r(math.MaxInt, math.MaxInt), 1 << 62, true},
	} {
		if got, ok := gap.Between(c.a, c.b); got != c.want || ok != c.ok {
			t.Errorf("%d: %d, %v, not %d, %v", i, got, ok, c.want, c.ok)
		}
	}
}

// P12.2: held against all numbers between, one by one.
func TestBetweenOneByOne(t *testing.T) {
	const n = 9
	for at := range n * n * n * n {
		a, b := r(at%n, at/n%n), r(at/n/n%n, at/n/n/n)
		want := 0
		for m := a.Hi; m <= b.Lo; m++ {
			want = max(want, min(m-a.Hi, b.Lo-m))
		}
		told := a.Lo <= a.Hi && b.Lo <= b.Hi && a.Hi < b.Lo
		if !told {
			want = 0
		}
		if got, ok := gap.Between(a, b); got != uint64(want) || ok != told {
			t.Fatalf("%v, %v: %d, %v, not %d, %v", a, b, got, ok, want, told)
		}
	}
}

// P12.2: as far as an int goes.
func TestBetweenAtTheEnds(t *testing.T) {
	for _, hi := range edges() {
		for _, lo := range edges() {
			want, told := uint64(0), hi < lo
			if told {
				want = new(big.Int).Rsh(new(big.Int).Sub(bigInt(lo), bigInt(hi)), 1).Uint64()
			}
			for _, c := range []struct{ a, b api.Range }{{r(hi, hi), r(lo, lo)}, {r(math.MinInt, hi), r(lo, math.MaxInt)}} {
				if got, ok := gap.Between(c.a, c.b); got != want || ok != told {
					t.Errorf("%v, %v: %d, %v, not %d, %v", c.a, c.b, got, ok, want, told)
				}
			}
		}
	}
}

// P12.2: what lies between two ranges of a set is no farther from it, and one number is as far.
func TestBetweenIsTheGreatestDistance(t *testing.T) {
	for hi := -4; hi < 4; hi++ {
		for lo := hi + 1; lo < 9; lo++ {
			s := ints(r(-9, hi), r(lo, 99))
			greatest := uint64(0)
			for n := hi; n <= lo; n++ {
				greatest = max(greatest, gap.Value(s, number(n)))
			}
			if got, ok := gap.Between(s.Ints[0], s.Ints[1]); got != greatest || !ok {
				t.Errorf("%v: %d, %v, not %d", s, got, ok, greatest)
			}
		}
	}
}
