package cells_test

import (
	"slices"
	"sync"
	"testing"

	"arbour/api"
	"arbour/box"
	"arbour/cells"
	"arbour/dnf"
	"arbour/set"
)

// someFilters: none, one and more boxes; empty boxes, boxes in one another, and boxes whose sets aren't right.
func someFilters() []api.Filter {
	wrong := wrongSets()
	out := []api.Filter{
		nil, {}, {{}}, {box.All()},
		{box.Atom(0, ints(r(1, 5)))},
		{box.Atom(0, ints(r(1, 5))), box.Atom(0, ints(r(2, 3))), box.Atom(3, strs("b"))},
		{{ints(r(1, 5)), strs("b"), others("a"), {Absent: true}}, {ints(r(6, 9)), strs("a"), ints(r(low, 0)), {}}},
		{box.Atom(1, wrong[0]), box.Atom(1, ints(r(7, 7)))},
		{{wrong[1], ints(r(0, 0)), wrong[2], strs("x")}},
		{box.Atom(2, ints(r(high, high))), box.Atom(2, ints(r(low, low))), box.Atom(2, strs("a")), box.Atom(2, strs("b")), box.Atom(2, others("", "c"))},
	}
	list := sets(somePieces())
	for i := range 40 {
		out = append(out, api.Filter{
			{list[i], list[i+9], list[i*3+5], list[i*4+7]},
			{list[(i*5+1)%100], list[(i*7+2)%100], wrong[i%len(wrong)], list[(i*11+3)%100]},
		})
	}
	return out
}

// setsOf answers the sets of an attribute, of all boxes of some filters.
func setsOf(filters []api.Filter, attr int) []api.Set {
	var out []api.Set
	for _, b := range slices.Concat(filters...) {
		out = append(out, b[attr])
	}
	return out
}

// eventsOf is a second form of Events, of a grid with the given cells.
func eventsOf(list [api.Attrs][]api.Set) []api.Event {
	var out []api.Event
	for _, a := range list[0] {
		for _, b := range list[1] {
			for _, c := range list[2] {
				for _, d := range list[3] {
					var e api.Event
					for attr, cell := range []api.Set{a, b, c, d} {
						e[attr], _ = cells.Sample(cell)
					}
					out = append(out, e)
				}
			}
		}
	}
	return out
}

// checkGrid holds all that a grid tells against the cells of its filters.
func checkGrid(t *testing.T, g *cells.Grid, filters ...api.Filter) {
	t.Helper()
	var want [api.Attrs][]api.Set
	count := 1
	for attr := range want {
		want[attr] = cells.Cut(setsOf(filters, attr)...)
		count *= len(want[attr])
		if got := g.Attr(attr); !equalLists(got, want[attr]) {
			t.Errorf("Attr(%d): %v, not %v", attr, got, want[attr])
		}
	}
	for _, attr := range []int{-1, api.Attrs, 5, low, high} {
		if got := g.Attr(attr); len(got) != 0 {
			t.Errorf("Attr(%d): %v", attr, got)
		}
	}
	if got := g.Count(); got != count {
		t.Errorf("Count(): %d, not %d", got, count)
	}
	var events []api.Event
	if count <= 5000 {
		events = eventsOf(want)
	}
	if got := g.Events(); !slices.Equal(got, events) {
		t.Errorf("Events(): %d events, not %d, or others", len(got), len(events))
	}
}

// P9.2
func TestGrid(t *testing.T) {
	list := someFilters()
	for i, f := range list {
		checkGrid(t, cells.New(f), f)
		g, h := list[(i*3+1)%len(list)], list[(i*7+2)%len(list)]
		checkGrid(t, cells.New(f, g), f, g)
		checkGrid(t, cells.New(f, g, h), f, g, h)
		checkGrid(t, cells.New(f, f), f)
	}
	checkGrid(t, cells.New(list...), list...)
}

// P9.2
func TestGridOfNothing(t *testing.T) {
	checkGrid(t, cells.New())
	checkGrid(t, nil)
	checkGrid(t, new(cells.Grid))
	if got := cells.New().Count(); got != 81 {
		t.Errorf("Count(): %d", got)
	}
	for _, attr := range []int{0, 1, 2, 3} {
		if got := (*cells.Grid)(nil).Attr(attr); !equalLists(got, between(parts())) {
			t.Errorf("Attr(%d) of a nil grid: %v", attr, got)
		}
	}
}

// P9.2: whichever call comes first lays the cells.
func TestFirstCallOfGrid(t *testing.T) {
	f := api.Filter{box.Atom(3, strs("x"))}
	if got := cells.New(f).Attr(3); !equalLists(got, between(parts(), "x")) {
		t.Errorf("Attr(3): %v", got)
	}
	if got := cells.New(f).Count(); got != 3*3*3*4 {
		t.Errorf("Count(): %d", got)
	}
	if got := cells.New(f).Events(); len(got) != 3*3*3*4 || got[2][3] != str("x") || got[3][3] != str("~0") {
		t.Errorf("Events(): %v", got)
	}
	g := cells.New(f)
	if got := g.Attr(4); len(got) != 0 {
		t.Errorf("Attr(4): %v", got)
	}
	checkGrid(t, g, f)
}

// ofSize answers a filter of which an attribute's cells are n, at least 3.
func ofSize(attr, n int) api.Filter {
	return api.Filter{box.Atom(attr, others(manyNames(n-3)...))}
}

func gridOf(a, b, c, d int) *cells.Grid {
	return cells.New(ofSize(0, a), ofSize(1, b), ofSize(2, c), ofSize(3, d))
}

// P9.2
func TestCount(t *testing.T) {
	for _, c := range []struct {
		a, b, c, d int
		want       int
	}{
		{3, 4, 5, 6, 360},
		{3, 3, 3, 5000, 135000},
		{1024, 1024, 1024, 1023, 1023 << 30},
		{1023, 1024, 1024, 1024, 1023 << 30},
		{1024, 1024, 1024, 1024, 1 << 40},
		{1024, 1024, 1024, 1025, 1 << 40},
		{1025, 1024, 1024, 1024, 1 << 40},
		{1 << 17, 1 << 17, 3, 16, 3 << 38},
		{1 << 17, 3, 1 << 17, 22, 1 << 40},
		{185, 2071, 2847, 1008, 1<<40 - 16},
		{185, 2071, 2847, 1009, 1 << 40},
		{3, 3, 349525, 349525, 9 * 349525 * 349525},
		{3, 3, 349526, 349526, 1 << 40},
		{1 << 16, 1 << 16, 1 << 16, 1 << 16, 1 << 40},
		{1 << 15, 1 << 16, 1 << 16, 1 << 16, 1 << 40},
	} {
		g := gridOf(c.a, c.b, c.c, c.d)
		want := min(c.want, 1<<40)
		if got := g.Count(); got != want {
			t.Errorf("%d, %d, %d, %d cells: Count(): %d, not %d", c.a, c.b, c.c, c.d, got, want)
		}
		if got := g.Events(); want > 5000 && len(got) != 0 {
			t.Errorf("%d, %d, %d, %d cells: %d events", c.a, c.b, c.c, c.d, len(got))
		}
	}
}

// P9.2
func TestEventsAreAtMostFiveThousand(t *testing.T) {
	for _, c := range []struct{ a, b, c, d, want int }{
		{5, 10, 10, 10, 5000}, {10, 10, 10, 5, 5000}, {3, 3, 5, 111, 4995}, {3, 3, 4, 139, 0}, {139, 4, 3, 3, 0}, {5, 7, 11, 13, 0}, {13, 11, 7, 5, 0}, {3, 3, 3, 185, 4995}, {3, 3, 3, 186, 0}, {5000, 3, 3, 3, 0},
	} {
		g := gridOf(c.a, c.b, c.c, c.d)
		got := g.Events()
		if len(got) != c.want {
			t.Errorf("%d, %d, %d, %d cells: %d events", c.a, c.b, c.c, c.d, len(got))
		}
		if c.want > 0 && !slices.Equal(got, eventsOf([api.Attrs][]api.Set{g.Attr(0), g.Attr(1), g.Attr(2), g.Attr(3)})) {
			t.Errorf("%d, %d, %d, %d cells: other events", c.a, c.b, c.c, c.d)
		}
	}
}

// P9.2: of attribute 0 the outermost order, of 3 the innermost.
func TestOrderOfEvents(t *testing.T) {
	got := cells.New(api.Filter{{ints(r(1, 5)), {}, {}, strs("b")}}).Events()
	if len(got) != 5*3*3*4 {
		t.Fatalf("%d events", len(got))
	}
	for at, want := range map[int]api.Event{
		0:   {},
		1:   {3: number(low)},
		2:   {3: str("b")},
		3:   {3: str("~0")},
		4:   {2: number(low)},
		8:   {2: str("~0")},
		12:  {1: number(low)},
		36:  {0: number(low)},
		72:  {0: number(1)},
		108: {0: number(6)},
		144: {0: str("~0")},
		179: {str("~0"), str("~0"), str("~0"), str("~0")},
	} {
		if got[at] != want {
			t.Errorf("%d: %v, not %v", at, got[at], want)
		}
	}
}

// P9.2: several may ask the same grid at once, and all are told the same.
func TestGridAskedAtOnce(t *testing.T) {
	list := someFilters()
	for i := range 20 {
		some := list[i : i+3]
		g := cells.New(some...)
		var all sync.WaitGroup
		for range 16 {
			all.Go(func() { checkGrid(t, g, some...) })
		}
		all.Wait()
	}
}

// P9.2: the cells are laid once, by whoever asks first, and not ahead of that.
func TestCellsAreLaidOnce(t *testing.T) {
	f := ofSize(2, 1000)
	made := testing.AllocsPerRun(20, func() { cells.New(f) })
	asked := testing.AllocsPerRun(20, func() { cells.New(f).Count() })
	if asked < made+1000 {
		t.Errorf("%v pieces of memory for a new grid, %v for one that is asked", made, asked)
	}
	g := cells.New(f)
	g.Count()
	if again := testing.AllocsPerRun(20, func() { g.Count() }); again > 10 {
		t.Errorf("%v pieces of memory where the cells are there", again)
	}
}

// P9.3
func TestCellsTellWhetherAFilterHasAnEvent(t *testing.T) {
	list := sets(somePieces())
	values := someValues()
	for i := range 60 {
		f := api.Filter{{list[i], list[i*2+5], list[i*3+1], list[216-1-i]}, {list[(i*5+2)%216], list[(i*7+3)%216], set.All(), list[(i*11+4)%216]}}
		h := api.Filter{box.Atom(i%4, list[(i*13+6)%216])}
		g := cells.New(f, h)
		var attrs [api.Attrs][]api.Set
		for attr := range attrs {
			attrs[attr] = g.Attr(attr)
		}
		for k := range 2000 {
			var e, sample api.Event
			for attr := range e {
				e[attr] = values[(k*(attr+3)+k/(7+attr))%len(values)]
				sample[attr], _ = cells.Sample(attrs[attr][cells.Which(attrs[attr], e[attr])])
			}
			for _, x := range []api.Filter{f, h} {
				if dnf.Has(x, e) != dnf.Has(x, sample) {
					t.Fatalf("%v has just one of %v and %v, which are in the same cells", x, e, sample)
				}
			}
		}
	}
}
