package diagram

import (
	"arbour/api"
	"arbour/set"
)

// builder lays a right filter's diagram from the last attribute on, so that no node comes but those that are in it.
type builder struct {
	space  *Space
	having [api.Attrs][]int // for each cell the boxes whose set has it, a bit for each box
	known  map[[2]int]int   // what of answered, by its arguments
}

// built answers the diagram of a right filter; noEvent, if one of its sets cuts a cell.
func (s *Space) built(f api.Filter) int {
	b := builder{space: s, known: map[[2]int]int{}}
	for attr := range b.having {
		having, ok := s.boxesHaving(f, attr)
		if !ok {
			return noEvent
		}
		b.having[attr] = having
	}
	return b.of(0, 1<<len(f)-1)
}

// boxesHaving answers for each of an attribute's cells which boxes have it; false, if a set has some of a cell's values, and not all.
func (s *Space) boxesHaving(f api.Filter, attr int) ([]int, bool) {
	out := make([]int, len(s.cells[attr]))
	for i, cell := range s.cells[attr] {
		for at, b := range f {
			if set.In(cell, b[attr]) {
				out[i] |= 1 << at
			} else if !set.Empty(set.And(cell, b[attr])) {
				return nil, false
			}
		}
	}
	return out, true
}

// of answers the diagram, from an attribute on, of the boxes that have the values of all attributes ahead of it.
func (b *builder) of(attr, boxes int) int {
	if boxes == 0 {
		return noEvent
	}
	if attr == api.Attrs {
		return eachEvent
	}
	at := [2]int{attr, boxes}
	if a, ok := b.known[at]; ok {
		return a
	}
	next := make([]int, len(b.having[attr]))
	for i, having := range b.having[attr] {
		next[i] = b.of(attr+1, boxes&having)
	}
	b.known[at] = b.space.made(attr, next)
	return b.known[at]
}
