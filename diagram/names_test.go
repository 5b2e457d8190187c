package diagram_test

import "arbour/pieces"

// Short names of what the tests lay again and again.
type (
	masks = pieces.Masks
	table = pieces.Table
	dice  = pieces.Dice
)

var (
	number, str           = pieces.Number, pieces.Str
	r, ints, strs, others = pieces.R, pieces.Ints, pieces.Strs, pieces.Others
	all, with             = pieces.All, pieces.With
)
