package gap_test

import "arbour/pieces"

// Short names of what the tests lay again and again.
type (
	masks = pieces.Masks
	dice  = pieces.Dice
)

var (
	r, ints, strs, others = pieces.R, pieces.Ints, pieces.Strs, pieces.Others
	number, str           = pieces.Number, pieces.Str
	all, with             = pieces.All, pieces.With
)
