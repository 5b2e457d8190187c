package diagram

import (
	"slices"
	"strconv"

	"arbour/api"
)

// The diagrams that are no nodes, and the number of the first one that is.
const (
	noEvent = iota
	eachEvent
	firstNode
)

type node struct {
	attr int
	next []int // a diagram for each of the attribute's cells
}

func isNode(a int) bool { return a >= firstNode }

// knows tells whether a number is a diagram of the space; no number is one of a nil Space.
func (s *Space) knows(a int) bool {
	return s != nil && a >= noEvent && a < firstNode+len(s.nodes)
}

// attr answers the first attribute that a diagram asks for; api.Attrs, if it asks for none.
func (s *Space) attr(a int) int {
	if !isNode(a) {
		return api.Attrs
	}
	return s.nodes[a-firstNode].attr
}

// below answers what a diagram, which asks for no attribute ahead of this one, comes to in one of its cells.
func (s *Space) below(a, attr, cell int) int {
	if s.attr(a) != attr {
		return a
	}
	return s.nodes[a-firstNode].next[cell]
}

// made answers the diagram that has these for an attribute's cells: what they all are, or the one node of them, new if there was none.
func (s *Space) made(attr int, next []int) int {
	if !slices.ContainsFunc(next, func(a int) bool { return a != next[0] }) {
		return next[0]
	}
	name := key(attr, next)
	a, ok := s.found[name]
	if !ok {
		a = firstNode + len(s.nodes)
		s.nodes = append(s.nodes, node{attr, next})
		s.found[name] = a
	}
	return a
}

// key answers a text that no other node has: a slice can't be a map's key.
func key(attr int, next []int) string {
	text := strconv.AppendInt(nil, int64(attr), 10)
	for _, a := range next {
		text = append(text, ' ')
		text = strconv.AppendInt(text, int64(a), 10)
	}
	return string(text)
}

// gather marks the nodes that are in a diagram.
func (s *Space) gather(a int, in map[int]bool) {
	if !isNode(a) || in[a] {
		return
	}
	in[a] = true
	for _, b := range s.nodes[a-firstNode].next {
		s.gather(b, in)
	}
}
