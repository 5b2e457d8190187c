package diagram_test

import (
	"slices"

	"arbour/api"
	"arbour/pieces"
)

// parts tells whether a set of pieces has just one of two that lie side by side: 0 low and middle, 1 middle and high, 2 x and notX.
func parts(mask, pair int) bool {
	switch pair {
	case 0:
		return mask&pieces.Low != 0 != (mask&pieces.Middle != 0)
	case 1:
		return mask&pieces.Middle != 0 != (mask&pieces.High != 0)
	}
	return mask&pieces.X != 0 != (mask&pieces.NotX != 0)
}

func anyParts(list []masks, attr, pair int) bool {
	return slices.ContainsFunc(list, func(m masks) bool { return parts(m[attr], pair) })
}

// cuts is a second form of whether a set of a filter cuts a cell of a grid: it parts what no set of the grid does.
func cuts(list, grid []masks) bool {
	for attr := range api.Attrs {
		for pair := range 3 {
			if anyParts(list, attr, pair) && !anyParts(grid, attr, pair) {
				return true
			}
		}
	}
	return false
}
