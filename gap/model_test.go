package gap_test

import (
	"math"
	"math/big"

	"arbour/api"
)

// A second form of the document's words, with numbers that have no greatest one.

const farOff = math.MaxUint64 // 2^64 - 1

func edges() []int {
	return []int{math.MinInt, math.MinInt + 1, math.MinInt / 2, -1, 0, 1, 5, math.MaxInt/2 + 1, math.MaxInt - 1, math.MaxInt}
}

func bigInt(n int) *big.Int { return big.NewInt(int64(n)) }

func bigDistance(n uint64) *big.Int { return new(big.Int).SetUint64(n) }

// distance answers far for what is as much or more.
func distance(n *big.Int) uint64 {
	if n.Cmp(bigDistance(farOff)) > 0 {
		return farOff
	}
	return n.Uint64()
}

// together adds distances as the words "two together" do, one after the other.
func together(list ...uint64) uint64 {
	sum := new(big.Int)
	for _, n := range list {
		sum.Add(sum, bigDistance(n))
	}
	return distance(sum)
}

// fromNumber answers how far a number is from the next one of ranges.
func fromNumber(list []api.Range, n int) uint64 {
	least := bigDistance(farOff)
	for _, r := range list {
		if r.Lo > r.Hi {
			continue
		}
		// Of the numbers of a range none is nearer than the greatest of these, or than nought.
		d := new(big.Int)
		for _, side := range []*big.Int{new(big.Int).Sub(bigInt(r.Lo), bigInt(n)), new(big.Int).Sub(bigInt(n), bigInt(r.Hi))} {
			if side.Cmp(d) > 0 {
				d = side
			}
		}
		if d.Cmp(least) < 0 {
			least = d
		}
	}
	return distance(least)
}

// has tells whether a value that may be is in a set, right or not.
func has(s api.Set, v api.Value) bool {
	switch v.Kind {
	case api.Int:
		for _, r := range s.Ints {
			if r.Lo <= v.N && v.N <= r.Hi {
				return true
			}
		}
		return false
	case api.Str:
		for _, name := range s.Strs {
			if name == v.S {
				return !s.Co
			}
		}
		return s.Co
	}
	return s.Absent
}

// fromValue answers how far a value that may be is from a set.
func fromValue(s api.Set, v api.Value) uint64 {
	switch {
	case has(s, v):
		return 0
	case v.Kind == api.Int:
		return fromNumber(s.Ints, v.N)
	}
	return farOff
}

func fromBox(b api.Box, e api.Event) uint64 {
	return together(fromValue(b[0], e[0]), fromValue(b[1], e[1]), fromValue(b[2], e[2]), fromValue(b[3], e[3]))
}

func fromFilter(f api.Filter, e api.Event) uint64 {
	least := uint64(farOff)
	for _, b := range f {
		if d := fromBox(b, e); d < least {
			least = d
		}
	}
	return least
}
