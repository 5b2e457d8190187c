package set

import (
	"slices"

	"arbour/api"
)

func rightStrings(list []string) bool {
	for i, s := range list {
		if len(s) > api.MaxString || i > 0 && list[i-1] >= s {
			return false
		}
	}
	return true
}

func hasString(list []string, s string) bool {
	_, found := slices.BinarySearch(list, s)
	return found
}

// orStrings answers, with its Co, the list of the strings that are in one of two such lists.
func orStrings(aCo bool, a []string, bCo bool, b []string) (co bool, list []string) {
	switch {
	case aCo && bCo:
		return true, picked(a, b, true)
	case aCo:
		return true, picked(a, b, false)
	case bCo:
		return true, picked(b, a, false)
	}
	return false, either(a, b)
}

// picked answers those of a list that the other one has, or those that it has not.
func picked(list, other []string, has bool) []string {
	var out []string
	for _, s := range list {
		if hasString(other, s) == has {
			out = append(out, s)
		}
	}
	return out
}

func either(a, b []string) []string {
	out := slices.Concat(a, b)
	slices.Sort(out)
	return slices.Compact(out)
}
