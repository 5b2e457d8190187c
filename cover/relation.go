package cover

import (
	"arbour/api"
	"arbour/diagram"
	"arbour/dnf"
	"arbour/wire"
)

// pair is two right filters' bytes: lists can't be a map's key.
type pair struct{ a, b string }

// relation is what two right filters are to each other.
type relation struct {
	size         int
	covers, same bool // both false, if the size is above the budget
}

// judged counts that one asked, and answers what two filters are to each other; false, if the judge doesn't know.
func (j *Judge) judged(a, b api.Filter) (relation, bool) {
	if j == nil {
		return relation{}, false
	}
	j.asked.Add(1)
	r, right := j.of(a, b)
	if !right || r.size > j.budget {
		j.unknown.Add(1)
		return relation{}, false
	}
	return r, true
}

// of answers what two filters are to each other; false, if one of them isn't right.
func (j *Judge) of(a, b api.Filter) (relation, bool) {
	if j == nil || !dnf.Right(a) || !dnf.Right(b) {
		return relation{}, false
	}
	at := pair{wire.PutFilter(a), wire.PutFilter(b)}
	r, ok := j.told[at]
	if !ok {
		r = related(a, b, j.budget)
		j.keep(at, r)
	}
	return r, true
}

func (j *Judge) keep(at pair, r relation) {
	// The zero Judge has no map yet.
	if j.told == nil {
		j.told = map[pair]relation{}
	}
	j.told[at] = r
}

// related lays the diagrams of two right filters, and looks no further if one of them is above the budget.
func related(a, b api.Filter, budget int) relation {
	s := diagram.New(a, b)
	x, y := s.Of(a), s.Of(b)
	r := relation{size: max(s.Size(x), s.Size(y))}
	if r.size <= budget {
		r.covers, r.same = s.And(x, y) == y, x == y
	}
	return r
}
