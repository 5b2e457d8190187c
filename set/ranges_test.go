package set_test

import (
	"math"
	"slices"
	"testing"

	"arbour/api"
	"arbour/set"
)

// allRanges: each pair of edges of the cells as a range, those that go backwards too.
func allRanges() []api.Range {
	var edges []int
	for _, c := range numberCells() {
		edges = append(edges, c.Lo)
		if c.Hi != c.Lo {
			edges = append(edges, c.Hi)
		}
	}
	var out []api.Range
	for _, lo := range edges {
		for _, hi := range edges {
			out = append(out, r(lo, hi))
		}
	}
	return out
}

// inTheirNormalForm is a second form of Ranges: it asks for each piece between two edges whether a range has it.
func inTheirNormalForm(list []api.Range) []api.Range {
	edges := []int{math.MinInt}
	for _, x := range list {
		edges = append(edges, x.Lo)
		if x.Hi < math.MaxInt {
			edges = append(edges, x.Hi+1)
		}
	}
	slices.Sort(edges)
	edges = slices.Compact(edges)
	var out []api.Range
	before := false
	for i, lo := range edges {
		hi := math.MaxInt
		if i+1 < len(edges) {
			hi = edges[i+1] - 1
		}
		has := slices.ContainsFunc(list, func(x api.Range) bool { return x.Lo <= lo && lo <= x.Hi })
		if has && before {
			out[len(out)-1].Hi = hi
		} else if has {
			out = append(out, r(lo, hi))
		}
		before = has
	}
	return out
}

// P3.1
func TestRangesExamples(t *testing.T) {
	low, high := math.MinInt, math.MaxInt
	for i, c := range []struct{ list, want []api.Range }{
		{nil, nil},
		{[]api.Range{}, nil},
		{[]api.Range{r(1, 3), r(4, 5), r(9, 8)}, []api.Range{r(1, 5)}},
		{[]api.Range{r(7, 7)}, []api.Range{r(7, 7)}},
		{[]api.Range{r(7, 6)}, nil},
		{[]api.Range{r(high, low)}, nil},
		{[]api.Range{r(5, 9), r(1, 3)}, []api.Range{r(1, 3), r(5, 9)}},
		{[]api.Range{r(5, 9), r(1, 4)}, []api.Range{r(1, 9)}},
		{[]api.Range{r(1, 9), r(2, 3), r(11, 12)}, []api.Range{r(1, 9), r(11, 12)}},
		{[]api.Range{r(1, 9), r(1, 9), r(1, 3)}, []api.Range{r(1, 9)}},
		{[]api.Range{r(1, 3), r(1, 9)}, []api.Range{r(1, 9)}},
		{[]api.Range{r(low, high)}, []api.Range{r(low, high)}},
		{[]api.Range{r(high, high), r(low, low)}, []api.Range{r(low, low), r(high, high)}},
		{[]api.Range{r(high, high), r(low, high-1)}, []api.Range{r(low, high)}},
		{[]api.Range{r(low+1, high), r(low, low)}, []api.Range{r(low, high)}},
		{[]api.Range{r(low, high), r(low, high), r(0, 0)}, []api.Range{r(low, high)}},
		{[]api.Range{r(11, 11), r(9, 9), r(7, 7), r(5, 5), r(3, 3), r(1, 1), r(-1, -1)}, []api.Range{r(-1, -1), r(1, 1), r(3, 3), r(5, 5), r(7, 7), r(9, 9), r(11, 11)}},
	} {
		if got := set.Ranges(c.list...); !slices.Equal(got, c.want) {
			t.Errorf("%d: Ranges(%v): %v, not %v", i, c.list, got, c.want)
		}
	}
}

// P3.1
func TestRangesAllShortLists(t *testing.T) {
	all := allRanges()
	for _, a := range all {
		for _, b := range all {
			check(t, a, b)
		}
	}
	// Every third range keeps the lists of three within a short time.
	for i := 0; i < len(all); i += 3 {
		for j := 1; j < len(all); j += 3 {
			for k := 2; k < len(all); k += 3 {
				check(t, all[i], all[j], all[k])
			}
		}
	}
}

func check(t *testing.T, list ...api.Range) {
	t.Helper()
	got, want := set.Ranges(list...), inTheirNormalForm(list)
	if !slices.Equal(got, want) {
		t.Fatalf("Ranges(%v): %v, not %v", list, got, want)
	}
	if !set.Right(api.Set{Ints: got}) {
		t.Fatalf("Ranges(%v): %v, which is not right", list, got)
	}
}
