package wire

import (
	"arbour/api"
	"arbour/codec"
	"arbour/dnf"
)

// TakeFilter: the filter that comes next.
func TakeFilter(r *codec.Reader) api.Filter {
	var f api.Filter
	for range takeCount(r, api.MaxBoxes) {
		f = append(f, takeBox(r))
	}
	if !dnf.Right(f) {
		r.Fail(api.ErrForm)
	}
	if r.Err() != api.OK {
		return nil
	}
	return f
}

// TakeEvent: the event that comes next.
func TakeEvent(r *codec.Reader) api.Event {
	var e api.Event
	for attr := range e {
		e[attr] = takeValue(r)
	}
	if r.Err() != api.OK {
		return api.Event{}
	}
	return e
}

// takeCount takes how many things follow; none do, if that is more than may be: bytes may tell any number, but
// no more is laid than a right filter has.
func takeCount(r *codec.Reader, most uint64) uint64 {
	n := r.Uint()
	if n > most {
		r.Fail(api.ErrForm)
		return 0
	}
	return n
}

func takeBox(r *codec.Reader) api.Box {
	var sets [api.Attrs]api.Set
	for attr := range sets {
		sets[attr] = takeSet(r)
	}
	return sets
}

// takeSet takes a set that need not be right: whether a filter is, is told of it as a whole.
func takeSet(r *codec.Reader) api.Set {
	first := r.Byte()
	if first > bitsOfAll {
		r.Fail(api.ErrForm)
	}
	s := api.Set{Absent: first&bitAbsent != 0, Co: first&bitCo != 0}
	for range takeCount(r, api.MaxRanges) {
		lo := r.Int()
		s.Ints = append(s.Ints, api.Range{Lo: lo, Hi: r.Int()})
	}
	for range takeCount(r, api.MaxStrings) {
		s.Strs = append(s.Strs, r.Str(api.MaxString))
	}
	return s
}

func takeValue(r *codec.Reader) api.Value {
	v := api.Value{Kind: int(r.Byte())}
	switch v.Kind {
	case api.Absent:
	case api.Int:
		v.N = r.Int()
	case api.Str:
		v.S = r.Str(api.MaxString)
	default:
		r.Fail(api.ErrForm)
	}
	return v
}
