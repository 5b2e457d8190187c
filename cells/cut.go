package cells

import (
	"math"
	"slices"

	"arbour/api"
	"arbour/set"
)

// Cut: all values in cells, that no set cuts.
func Cut(list ...api.Set) []api.Set {
	var ranges []api.Range
	var names []string
	for _, s := range list {
		if set.Right(s) {
			ranges = append(ranges, s.Ints...)
			names = append(names, s.Strs...)
		}
	}
	return slices.Concat([]api.Set{{Absent: true}}, numberCells(ranges), stringCells(names))
}

func numberCells(ranges []api.Range) []api.Set {
	begins := beginnings(ranges)
	out := make([]api.Set, len(begins))
	for i, lo := range begins {
		hi := math.MaxInt
		if i+1 < len(begins) {
			hi = begins[i+1] - 1
		}
		out[i].Ints = []api.Range{{Lo: lo, Hi: hi}}
	}
	return out
}

// beginnings answers, rising, the numbers at which a cell begins.
func beginnings(ranges []api.Range) []int {
	out := []int{math.MinInt}
	for _, r := range ranges {
		out = append(out, r.Lo)
		// No cell begins behind the greatest number.
		if r.Hi < math.MaxInt {
			out = append(out, r.Hi+1)
		}
	}
	slices.Sort(out)
	return slices.Compact(out)
}

// stringCells may change the list of names, and keeps it in the last cell.
func stringCells(names []string) []api.Set {
	slices.Sort(names)
	names = slices.Compact(names)
	out := make([]api.Set, 0, len(names)+1)
	for _, name := range names {
		out = append(out, api.Set{Strs: []string{name}})
	}
	return append(out, api.Set{Co: true, Strs: names})
}
