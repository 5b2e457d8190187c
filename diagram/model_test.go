package diagram_test

import (
	"testing"

	"arbour/api"
	"arbour/diagram"
	"arbour/dnf"
	"arbour/pieces"
)

// model holds a space against the tables of the diagrams that it was asked for.
type model struct {
	t       *testing.T
	space   *diagram.Space
	grid    []masks
	tables  map[int]table  // of the numbers that were answered
	numbers map[table]int  // the other way round
	nodes   map[string]int // how often each node came
	asked   int
}

func newModel(t *testing.T, lists ...[]masks) *model {
	m := &model{t: t, tables: map[int]table{}, numbers: map[table]int{}, nodes: map[string]int{}}
	var filters []api.Filter
	for _, list := range lists {
		filters = append(filters, pieces.Filter(list))
		m.grid = append(m.grid, list...)
	}
	m.space = diagram.New(filters...)
	m.check(m.space.Not(1), pieces.TableOf(func(int) bool { return false }))
	m.check(m.space.Not(0), pieces.TableOf(func(int) bool { return true }))
	return m
}

// check holds an answer of Of, And, Or or Not, and all that the space tells behind it, against the table of its events.
func (m *model) check(a int, want table) int {
	m.t.Helper()
	m.asked++
	before := len(m.nodes)
	nodes := want.Nodes()
	for _, n := range nodes {
		m.nodes[n]++
	}
	s := m.space
	if got := s.Nodes(); got != len(m.nodes) {
		m.t.Fatalf("%d nodes, not %d", got, len(m.nodes))
	}
	if len(m.nodes) > before && a != len(m.nodes)+1 {
		m.t.Fatalf("the diagram %d, whose node came last of %d", a, len(m.nodes))
	}
	if got := s.Size(a); got != len(nodes) {
		m.t.Fatalf("the size %d, not %d", got, len(nodes))
	}
	if got := s.Asked(); got != m.asked {
		m.t.Fatalf("asked %d times, not %d", got, m.asked)
	}
	m.checkNumber(a, want)
	return a
}

// checkNumber tells whether the same events always are the same number, and others another one.
func (m *model) checkNumber(a int, want table) {
	m.t.Helper()
	known, ok := m.tables[a]
	if number, is := m.numbers[want]; ok != is || is && number != a || ok && known != want {
		m.t.Fatalf("the diagram %d, not %d", a, number)
	}
	if ok {
		return
	}
	m.tables[a], m.numbers[want] = want, a
	for row := range pieces.Rows {
		if e := pieces.Event(row); m.space.Has(a, e) != (want[row] == '1') {
			m.t.Fatalf("Has(%d, %v): not %c", a, e, want[row])
		}
	}
}

func (m *model) of(list []masks) int {
	m.t.Helper()
	f := pieces.Filter(list)
	if !dnf.Right(f) {
		m.t.Fatalf("%v: not right", f)
	}
	a := m.space.Of(f)
	if cuts(list, m.grid) {
		list = nil
	}
	if m.check(a, pieces.TableOfFilter(list)); m.space.Size(a) > api.Beta {
		m.t.Fatalf("%v: a size of %d", f, m.space.Size(a))
	}
	return a
}

func (m *model) and(a, b int) int {
	m.t.Helper()
	return m.check(m.space.And(a, b), m.tables[a].And(m.tables[b]))
}

func (m *model) or(a, b int) int {
	m.t.Helper()
	return m.check(m.space.Or(a, b), m.tables[a].Or(m.tables[b]))
}

func (m *model) not(a int) int {
	m.t.Helper()
	return m.check(m.space.Not(a), m.tables[a].Not())
}

// P10.1, P10.2, P10.3: filters of a grid, and what is laid of them.
func TestDiagramsOfFilters(t *testing.T) {
	d := dice(1)
	for n := range 150 {
		var lists [][]masks
		for range 1 + n%3 {
			lists = append(lists, d.Some(4))
		}
		m := newModel(t, lists...)
		diagrams := []int{0, 1}
		for _, list := range lists {
			diagrams = append(diagrams, m.of(list))
		}
		for range 3 {
			diagrams = append(diagrams, m.of(d.Some(2)))
		}
		for range 12 {
			a, b := diagrams[d.Roll(len(diagrams))], diagrams[d.Roll(len(diagrams))]
			both, either, not := m.and(a, b), m.or(a, b), m.not(a)
			if m.and(b, a) != both || m.or(b, a) != either || m.not(not) != a {
				t.Fatalf("of %d and %d: not the same the other way round", a, b)
			}
			if m.or(not, m.not(b)) != m.not(both) || m.and(not, m.not(b)) != m.not(either) {
				t.Fatalf("De Morgan's rules don't hold of %d and %d", a, b)
			}
			diagrams = append(diagrams, both, either, not)
		}
	}
}

// P10.1: each pair of sets, of which the one lays the grid: whether the other one cuts a cell, and its diagram.
func TestOfEachSet(t *testing.T) {
	for mask := 1; mask <= pieces.Each; mask++ {
		for other := 1; other <= pieces.Each; other++ {
			attr := (mask + other) % api.Attrs
			grid, list := fullMasks(), fullMasks()
			grid[attr], list[attr] = mask, other
			s := diagram.New(pieces.Filter([]masks{grid}))
			a := s.Of(pieces.Filter([]masks{list}))
			want := 2
			if cuts([]masks{list}, []masks{grid}) {
				want = 0
			} else if other == pieces.Each {
				want = 1
			}
			if a != want {
				t.Fatalf("%v of a grid of %v: the diagram %d, not %d", pieces.SetOf(other), pieces.SetOf(mask), a, want)
			}
			for piece := range pieces.Count {
				for _, v := range pieces.ValuesOf(piece) {
					var e api.Event
					e[attr] = v
					if s.Has(a, e) != (want > 0 && other>>piece&1 == 1) {
						t.Fatalf("%v of a grid of %v: Has(%v): %v", pieces.SetOf(other), pieces.SetOf(mask), e, s.Has(a, e))
					}
				}
			}
		}
	}
}

func fullMasks() masks { return masks{pieces.Each, pieces.Each, pieces.Each, pieces.Each} }

// P10.2: each number up to the last node's is a diagram, and no two are the same.
func TestEachNumberIsADiagram(t *testing.T) {
	d := dice(7)
	for range 20 {
		lists := [][]masks{d.Some(4), d.Some(4)}
		m := newModel(t, lists...)
		m.not(m.and(m.of(lists[0]), m.not(m.of(lists[1]))))
		seen := map[table]bool{}
		for a := range m.space.Nodes() + 2 {
			got := pieces.TableOf(func(row int) bool { return m.space.Has(a, pieces.Event(row)) })
			if seen[got] || len(got.Nodes()) != m.space.Size(a) {
				t.Fatalf("the diagram %d: its size %d, its events those of another one: %v", a, m.space.Size(a), seen[got])
			}
			seen[got] = true
			m.check(m.space.And(a, a), got)
		}
	}
}
