package expr

import (
	"slices"

	"arbour/api"
)

// maxCopied is how many parts of an expression are copied at most: far more than may be, and few enough for
// one that holds itself, which has no end, and one that holds the same list many times, which memory couldn't hold.
const maxCopied = 1 << 10

func copiedSet(s api.Set) api.Set {
	s.Ints = slices.Clone(s.Ints)
	s.Strs = slices.Clone(s.Strs)
	return s
}

// copiedList answers a new list, its expressions in new memory, too; but one with more than maxCopied parts below it stays as it is.
func copiedList(list []api.Expr) []api.Expr {
	out := slices.Clone(list)
	for i, x := range out {
		if roomLeft(maxCopied, x.Sub) >= 0 {
			out[i] = copied(x)
		}
	}
	return out
}

// roomLeft answers how many more parts there is room for beside those of a list; a number below 0, if there is too little for these.
func roomLeft(room int, list []api.Expr) int {
	room -= len(list)
	for i := range list {
		if room < 0 {
			break
		}
		room = roomLeft(room, list[i].Sub)
	}
	return room
}

// copied answers an expression in new memory; it must have an end.
func copied(x api.Expr) api.Expr {
	x.Set = copiedSet(x.Set)
	x.Sub = slices.Clone(x.Sub)
	for i, sub := range x.Sub {
		x.Sub[i] = copied(sub)
	}
	return x
}
