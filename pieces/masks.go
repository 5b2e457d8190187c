package pieces

import (
	"math"

	"arbour/api"
)

// All values in six pieces, a bit of a mask for each.
const (
	Absent = 1 << iota
	Low    // the numbers up to 0
	Middle // 1 to 5
	High   // from 6 on
	X      // 'x'
	NotX   // all other strings

	Count = 6
	Each  = 1<<Count - 1
	Rows  = Count * Count * Count * Count // a row of pieces has one for each attribute
)

func numberPieces() []api.Range {
	return []api.Range{R(math.MinInt, 0), R(1, 5), R(6, math.MaxInt)}
}

// ValuesOf answers the values at the edges of a piece.
func ValuesOf(piece int) []api.Value {
	switch 1 << piece {
	case Absent:
		return []api.Value{{}}
	case X:
		return []api.Value{Str("x")}
	case NotX:
		return []api.Value{Str(""), Str("abcdefgh")}
	}
	c := numberPieces()[piece-1]
	return []api.Value{Number(c.Lo), Number(c.Hi)}
}

// SetOf lays the right set of just the pieces whose bits are set.
func SetOf(mask int) api.Set {
	s := api.Set{Absent: mask&Absent != 0, Co: mask&NotX != 0}
	for i, c := range numberPieces() {
		switch last := len(s.Ints) - 1; {
		case mask&(Low<<i) == 0:
		case last >= 0 && s.Ints[last].Hi+1 == c.Lo:
			s.Ints[last].Hi = c.Hi
		default:
			s.Ints = append(s.Ints, c)
		}
	}
	if s.Co != (mask&X != 0) {
		s.Strs = []string{"x"}
	}
	return s
}

// Masks are what a box is laid of: the pieces of each of its sets.
type Masks [api.Attrs]int

// Box lays it.
func (m Masks) Box() api.Box {
	var b api.Box
	for attr, mask := range m {
		b[attr] = SetOf(mask)
	}
	return b
}

// In tells whether each event of the one is one of the other one.
func (m Masks) In(o Masks) bool {
	for attr := range m {
		if m[attr]&^o[attr] != 0 && !m.Empty() {
			return false
		}
	}
	return true
}

// Empty tells whether no event has it.
func (m Masks) Empty() bool {
	for _, mask := range m {
		if mask == 0 {
			return true
		}
	}
	return false
}

// Filter lays a filter.
func Filter(list []Masks) api.Filter {
	var f api.Filter
	for _, m := range list {
		f = append(f, m.Box())
	}
	return f
}

// Tidied answers those that aren't empty, and lie in no other one.
func Tidied(list []Masks) []Masks {
	var out []Masks
	for at, m := range list {
		keep := !m.Empty()
		for other, o := range list {
			if other != at && m.In(o) && (other < at || !o.In(m)) {
				keep = false
			}
		}
		if keep {
			out = append(out, m)
		}
	}
	return out
}

// Of answers the pieces of which a row is, for each attribute; of attribute 0 the outermost order.
func Of(row int) [api.Attrs]int {
	var out [api.Attrs]int
	for attr := api.Attrs - 1; attr >= 0; attr-- {
		out[attr] = row % Count
		row /= Count
	}
	return out
}

// Event answers an event of a row of pieces.
func Event(row int) api.Event {
	var e api.Event
	for attr, piece := range Of(row) {
		values := ValuesOf(piece)
		e[attr] = values[(row+attr)%len(values)]
	}
	return e
}
