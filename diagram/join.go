package diagram

// joiner lays the diagram of two joined, and no node but those that are in it.
type joiner struct {
	space *Space
	holds func(inA, inB bool) bool // of an event, by whether it is in the one, and in the other one
	known map[[2]int]int           // what of answered, by its arguments
}

// joined counts that one asked, and answers the diagram of the events of which holds is so.
func (s *Space) joined(a, b int, holds func(inA, inB bool) bool) int {
	if s == nil {
		return noEvent
	}
	s.asked.Add(1)
	if !s.knows(a) || !s.knows(b) {
		return noEvent
	}
	j := joiner{s, holds, map[[2]int]int{}}
	return j.of(a, b)
}

func (j *joiner) of(a, b int) int {
	if !isNode(a) && !isNode(b) {
		return j.leaf(a, b)
	}
	// Without this a node would be gone through once for each way that leads to it.
	at := [2]int{a, b}
	if c, ok := j.known[at]; ok {
		return c
	}
	attr := min(j.space.attr(a), j.space.attr(b))
	next := make([]int, len(j.space.cells[attr]))
	for i := range next {
		next[i] = j.of(j.space.below(a, attr, i), j.space.below(b, attr, i))
	}
	j.known[at] = j.space.made(attr, next)
	return j.known[at]
}

func (j *joiner) leaf(a, b int) int {
	if j.holds(a == eachEvent, b == eachEvent) {
		return eachEvent
	}
	return noEvent
}
