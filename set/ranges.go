package set

import (
	"cmp"
	"math"
	"slices"

	"arbour/api"
)

// Ranges: ranges in their normal form.
func Ranges(list ...api.Range) []api.Range {
	// A copy is sorted: a list that is spread into the arguments is the caller's own.
	sorted := make([]api.Range, 0, len(list))
	for _, r := range list {
		if r.Lo <= r.Hi {
			sorted = append(sorted, r)
		}
	}
	slices.SortFunc(sorted, func(a, b api.Range) int { return cmp.Compare(a.Lo, b.Lo) })
	return joined(sorted)
}

// joined answers ranges, rising by Lo, as one wherever no number lies between them.
func joined(sorted []api.Range) []api.Range {
	var out []api.Range
	for _, r := range sorted {
		last := len(out) - 1
		if last >= 0 && !apart(out[last], r) {
			out[last].Hi = max(out[last].Hi, r.Hi)
		} else {
			out = append(out, r)
		}
	}
	return out
}

// apart tells whether b lies behind a with a number between them.
func apart(a, b api.Range) bool {
	// Where b.Lo is above another number, one less is still an int.
	return b.Lo > a.Hi && b.Lo-1 > a.Hi
}

func rightRanges(list []api.Range) bool {
	for i, r := range list {
		if r.Lo > r.Hi || i > 0 && !apart(list[i-1], r) {
			return false
		}
	}
	return true
}

func hasNumber(list []api.Range, n int) bool {
	for _, r := range list {
		if r.Lo <= n && n <= r.Hi {
			return true
		}
	}
	return false
}

// otherRanges answers the numbers that are in none of them.
func otherRanges(list []api.Range) []api.Range {
	var out []api.Range
	next := math.MinInt
	for _, r := range list {
		if r.Lo > next {
			out = append(out, api.Range{Lo: next, Hi: r.Lo - 1})
		}
		if r.Hi == math.MaxInt {
			return out
		}
		next = r.Hi + 1
	}
	return append(out, api.Range{Lo: next, Hi: math.MaxInt})
}

// commonRanges answers the numbers that are in one of a and in one of b.
func commonRanges(a, b []api.Range) []api.Range {
	var out []api.Range
	for len(a) > 0 && len(b) > 0 {
		common := api.Range{Lo: max(a[0].Lo, b[0].Lo), Hi: min(a[0].Hi, b[0].Hi)}
		if common.Lo <= common.Hi {
			out = append(out, common)
		}
		// The one that ends first can have nothing more in common with what follows.
		if a[0].Hi < b[0].Hi {
			a = a[1:]
		} else {
			b = b[1:]
		}
	}
	return out
}
