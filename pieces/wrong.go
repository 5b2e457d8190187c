package pieces

import (
	"math"

	"arbour/api"
)

// WrongSets answers sets that aren't right, or aren't small.
func WrongSets() []api.Set {
	seven := make([]api.Range, 0, 7)
	for i := range 7 {
		seven = append(seven, R(i*2, i*2))
	}
	return []api.Set{
		Ints(R(2, 1)), Ints(R(5, 6), R(1, 2)), Ints(R(1, 2), R(3, 4)), Ints(R(1, 5), R(2, 3)), Ints(seven...),
		Strs("b", "a"), Strs("a", "a"), Strs("123456789"), Others("b", "a"), Others("123456789"), Strs("1", "2", "3", "4", "5", "6", "7"),
	}
}

// WrongFilters answers filters that aren't right.
func WrongFilters() []api.Filter {
	five := Ints(R(1, 5))
	out := []api.Filter{
		{{}}, {With(0, api.Set{})}, {With(3, api.Set{}), All()}, {All(), All()}, {All(), With(2, five)}, {With(2, five), All()},
		{With(1, five), With(1, Ints(R(2, 3)))}, {With(1, five), With(1, five)}, Apart(5), Apart(100),
	}
	for _, s := range WrongSets() {
		for attr := range api.Attrs {
			out = append(out, api.Filter{With(attr, s)}, api.Filter{With((attr+1)%api.Attrs, five), With(attr, s)})
		}
	}
	return out
}

// WrongValues answers values that mayn't be.
func WrongValues() []api.Value {
	return []api.Value{
		{N: 1}, {S: "x"}, {Kind: api.Int, N: 1, S: "x"}, {Kind: api.Str, N: 1, S: "x"},
		Str("123456789"), {Kind: 3}, {Kind: -1}, {Kind: math.MaxInt}, {Kind: math.MinInt},
	}
}
