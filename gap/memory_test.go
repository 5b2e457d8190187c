package gap_test

import (
	"testing"

	"arbour/api"
	"arbour/gap"
	"arbour/pieces"
)

// P12.1: filters stay as they are, right or not, their spare room too.
func TestFiltersStay(t *testing.T) {
	list := append(pieces.WrongFilters(), pieces.Full(0), pieces.Apart(4))
	for _, f := range list {
		g := pieces.Roomy(f)
		whole := pieces.Whole(g)
		for row := range 50 {
			e := pieces.Event(row * 25)
			if got, want := gap.Filter(g, e), fromFilter(f, e); got != want {
				t.Fatalf("%v from %v: %d, not %d", e, f, got, want)
			}
			for _, b := range g {
				gap.Box(b, e)
				gap.Value(b[row%api.Attrs], e[row%api.Attrs])
			}
		}
		if !pieces.Stayed(g, whole) {
			t.Fatalf("%v: changed", f)
		}
	}
}
