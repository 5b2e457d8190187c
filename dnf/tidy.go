package dnf

import (
	"slices"

	"arbour/api"
	"arbour/box"
)

// tidied answers, in a new list, the boxes themselves, without those that are empty or lie in others.
func tidied(list []api.Box) []api.Box {
	var kept []api.Box
	for _, b := range list {
		// What lies in a box that was left out lies in the kept one, too, because of which that was left out.
		if box.Empty(b) || liesInOne(b, kept) {
			continue
		}
		kept = slices.DeleteFunc(kept, func(k api.Box) bool { return box.In(k, b) })
		kept = append(kept, b)
	}
	return kept
}

func liesInOne(b api.Box, list []api.Box) bool {
	return slices.ContainsFunc(list, func(other api.Box) bool { return box.In(b, other) })
}

// copied answers the same box with lists of its own: the array is copied as a whole, but still shares them.
func copied(b api.Box) api.Box {
	for attr := range b {
		b[attr].Ints = slices.Clone(b[attr].Ints)
		b[attr].Strs = slices.Clone(b[attr].Strs)
	}
	return b
}
