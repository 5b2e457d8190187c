package pieces_test

import (
	"testing"

	"arbour/api"
	"arbour/dnf"
	"arbour/pieces"
	"arbour/set"
	"arbour/value"
)

// What the tests of the layers know of filters is what the layers dnf, set and value say of them.
func TestFiltersAreAsTheirTables(t *testing.T) {
	d := pieces.Dice(1)
	for range 300 {
		list := d.Some(4)
		for _, list := range [][]pieces.Masks{list, d.Below(list)} {
			f, events := pieces.Filter(list), pieces.TableOfFilter(list)
			if !dnf.Right(f) {
				t.Fatalf("%v: not right", f)
			}
			for row := range pieces.Rows {
				if e := pieces.Event(row); dnf.Has(f, e) != events.Has(row) {
					t.Fatalf("%v has %v: %v", f, e, !events.Has(row))
				}
			}
		}
		if !pieces.TableOfFilter(list).Covers(pieces.TableOfFilter(d.Below(list))) {
			t.Fatalf("%v: not below", list)
		}
	}
}

func TestSetsHaveTheirPieces(t *testing.T) {
	for mask := range pieces.Each + 1 {
		for piece := range pieces.Count {
			for _, v := range pieces.ValuesOf(piece) {
				if set.Has(pieces.SetOf(mask), v) != (mask>>piece&1 == 1) {
					t.Errorf("%v has %v, or not", pieces.SetOf(mask), v)
				}
			}
		}
	}
}

func TestRightAndWrong(t *testing.T) {
	for _, f := range []api.Filter{nil, {pieces.All()}, pieces.Apart(4), pieces.Full(0), pieces.Full(-100), pieces.Full(0)[:3]} {
		if !dnf.Right(f) {
			t.Errorf("%v: not right", f)
		}
	}
	for i, f := range pieces.WrongFilters() {
		if dnf.Right(f) {
			t.Errorf("%d: %v: right", i, f)
		}
	}
	for _, v := range pieces.WrongValues() {
		if value.Event(api.Event{v}) {
			t.Errorf("%v may be", v)
		}
	}
}

func TestMemory(t *testing.T) {
	f := pieces.Roomy(pieces.Full(0))
	whole := pieces.Whole(f)
	if !dnf.Same(f, pieces.Full(0)) || !pieces.Stayed(f, whole) {
		t.Error("changed by nobody")
	}
	f[:5][4][0].Absent = !f[:5][4][0].Absent
	if pieces.Stayed(f, whole) {
		t.Error("a change of the spare room isn't told")
	}
	if pieces.Spoil(f); pieces.Stayed(f, whole) || dnf.Same(f, pieces.Full(0)) {
		t.Error("not spoiled")
	}
}
