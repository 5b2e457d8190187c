package cover_test

import "arbour/pieces"

// Short names of what the tests lay again and again.
type (
	masks = pieces.Masks
	table = pieces.Table
	dice  = pieces.Dice
)

var (
	r, ints, strs, others = pieces.R, pieces.Ints, pieces.Strs, pieces.Others
	all, with             = pieces.All, pieces.With
)
