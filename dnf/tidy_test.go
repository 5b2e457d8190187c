package dnf_test

import (
	"slices"
	"testing"

	"arbour/api"
	"arbour/dnf"
)

// P6.1
func TestTidyExamples(t *testing.T) {
	none := api.Set{Ints: []api.Range{}, Strs: []string{}}
	narrow, wide, b := with(0, ints(r(2, 3))), with(0, ints(r(1, 5))), with(1, strs("x"))
	both := with(0, ints(r(2, 3)))
	both[1] = strs("x")
	great := with(2, greatSets()[0])
	for i, c := range []struct{ list, want []api.Box }{
		{nil, nil}, {[]api.Box{}, nil}, {[]api.Box{{}}, nil}, {[]api.Box{{}, {}}, nil},
		{[]api.Box{with(3, none), with(0, api.Set{}), with(2, api.Set{})}, nil},
		{[]api.Box{all()}, []api.Box{all()}}, {[]api.Box{all(), all(), all()}, []api.Box{all()}}, {[]api.Box{{}, all(), {}}, []api.Box{all()}},
		{[]api.Box{narrow, wide}, []api.Box{wide}}, {[]api.Box{wide, narrow}, []api.Box{wide}},
		{[]api.Box{narrow, b, wide}, []api.Box{b, wide}}, {[]api.Box{wide, b, narrow}, []api.Box{wide, b}}, {[]api.Box{b, narrow, wide}, []api.Box{b, wide}},
		{[]api.Box{b, wide, b}, []api.Box{b, wide}}, {[]api.Box{wide, b, wide, b, narrow}, []api.Box{wide, b}},
		{[]api.Box{both, narrow, wide, all()}, []api.Box{all()}}, {[]api.Box{all(), wide, narrow, both}, []api.Box{all()}},
		{[]api.Box{both, b, narrow}, []api.Box{b, narrow}}, {[]api.Box{b, both, narrow}, []api.Box{b, narrow}}, {[]api.Box{b, narrow, both}, []api.Box{b, narrow}},
		{[]api.Box{great, both}, []api.Box{great, both}}, {[]api.Box{great, with(2, ints(r(2, 2), r(12, 12)))}, []api.Box{great}},
	} {
		if got := dnf.Tidy(c.list); !equalLists(got, c.want) {
			t.Errorf("%d: Tidy(%v): %v", i, c.list, got)
		}
	}
}

// P6.1: one that lies in two together, and in neither alone, stays.
func TestTidyHoldsBoxesOneByOne(t *testing.T) {
	list := []api.Box{with(0, ints(r(1, 5))), with(0, ints(r(6, 9))), with(0, ints(r(3, 7))), with(0, ints(r(1, 9), r(11, 11)))}
	if got := dnf.Tidy(list[:3]); !equalLists(got, list[:3]) {
		t.Errorf("Tidy: %v", got)
	}
	if got := dnf.Tidy(list); !equalLists(got, list[3:]) {
		t.Errorf("Tidy: %v", got)
	}
}

// fewMasks: boxes among which many lie in others, many are the same, and some are empty.
func fewMasks() []masks {
	return []masks{
		{}, allMasks(), {0, allPieces, allPieces, allPieces}, {allPieces, allPieces, allPieces, 0},
		{middle, allPieces, allPieces, allPieces}, {middle | high, allPieces, allPieces, allPieces}, {middle | absent, allPieces, allPieces, allPieces},
		{allPieces, x, allPieces, allPieces}, {middle, x, allPieces, allPieces}, {middle, x | notX, allPieces, low}, {middle | high, x | notX, notX, low | absent},
	}
}

// P6.1: all lists of up to four boxes, in all orders.
func TestTidyAllShortLists(t *testing.T) {
	few := fewMasks()
	lists := [][]masks{nil}
	for range 4 {
		var longer [][]masks
		for _, list := range lists {
			checkTidy(t, list)
			for _, m := range few {
				longer = append(longer, append(slices.Clone(list), m))
			}
		}
		lists = longer
	}
	for i := 0; i < len(lists); i += 3 {
		checkTidy(t, lists[i])
	}
}

func checkTidy(t *testing.T, list []masks) {
	t.Helper()
	boxes, want := boxesOf(list), boxesOf(tidy(list))
	if got := dnf.Tidy(boxes); !equalLists(got, want) {
		t.Fatalf("Tidy(%v): %v, not %v", boxes, got, want)
	}
}

// someMasks rolls a list in which boxes of one attribute are narrowed at two or three others.
func someMasks(d *dice, n int) []masks {
	var out []masks
	for range n {
		m := allMasks()
		for attr := range m {
			if d.roll(3) > 0 {
				m[attr] = d.roll(allPieces) | d.roll(allPieces)
			}
		}
		out = append(out, m)
	}
	return out
}

// P6.1: longer ones, beyond 16 boxes too.
func TestTidyLongLists(t *testing.T) {
	d := dice(6)
	for n := range 300 {
		checkTidy(t, someMasks(&d, n%60))
	}
}

// P6.1: a list that is tidied is tidy.
func TestTidyOfTidy(t *testing.T) {
	d := dice(61)
	for n := range 100 {
		list := dnf.Tidy(boxesOf(someMasks(&d, n%30)))
		if got := dnf.Tidy(list); !equalLists(got, list) {
			t.Fatalf("Tidy(%v): %v", list, got)
		}
		if len(list) <= 4 && !dnf.Right(list) {
			t.Fatalf("Right(%v): false", list)
		}
	}
}
