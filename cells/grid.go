package cells

import (
	"slices"
	"sync"

	"arbour/api"
)

const (
	maxCount  = 1 << 40 // Count tells no more
	maxEvents = 5000    // Events answers no more
)

// Grid: cells for each attribute.
type Grid struct {
	once  sync.Once
	sets  [api.Attrs][]api.Set // what the cells are to be laid of, until they are
	cells [api.Attrs][]api.Set
}

// New: those of some filters.
func New(filters ...api.Filter) *Grid {
	g := new(Grid)
	for _, f := range filters {
		for _, b := range f {
			for attr, s := range b {
				// The cells are laid later, when the caller may have changed the filters.
				g.sets[attr] = append(g.sets[attr], copied(s))
			}
		}
	}
	return g
}

// laid answers the cells; those of a nil Grid are laid for this call alone, as there is no place to keep them.
func (g *Grid) laid() [api.Attrs][]api.Set {
	if g == nil {
		g = new(Grid)
	}
	g.once.Do(func() {
		for attr, list := range g.sets {
			g.cells[attr] = Cut(list...)
		}
		g.sets = [api.Attrs][]api.Set{}
	})
	return g.cells
}

// Attr: an attribute's.
func (g *Grid) Attr(attr int) []api.Set {
	if attr < 0 || attr >= api.Attrs {
		return nil
	}
	out := slices.Clone(g.laid()[attr])
	for i, s := range out {
		out[i] = copied(s)
	}
	return out
}

// Count: how many combinations there are.
func (g *Grid) Count() int {
	count := 1
	for _, list := range g.laid() {
		// Held against the quotient, as the product may be too great for an int.
		if count > maxCount/len(list) {
			return maxCount
		}
		count *= len(list)
	}
	return count
}

// Events: an event of each combination.
func (g *Grid) Events() []api.Event {
	if g.Count() > maxEvents {
		return nil
	}
	events := []api.Event{{}}
	for attr, list := range g.laid() {
		events = spread(events, attr, list)
	}
	return events
}

// spread answers each event once for each cell, with that cell's sample as the attribute.
func spread(events []api.Event, attr int, list []api.Set) []api.Event {
	out := make([]api.Event, 0, len(events)*len(list))
	for _, e := range events {
		for _, cell := range list {
			e[attr], _ = Sample(cell)
			out = append(out, e)
		}
	}
	return out
}

// copied answers the same set with lists of its own.
func copied(s api.Set) api.Set {
	s.Ints = slices.Clone(s.Ints)
	s.Strs = slices.Clone(s.Strs)
	return s
}
