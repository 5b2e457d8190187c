package pieces

import (
	"slices"
	"strconv"

	"arbour/api"
)

// Table says of each row of pieces whether its events are meant: a byte each, '1' or '0'.
type Table string

// TableOf asks of each row.
func TableOf(has func(row int) bool) Table {
	out := make([]byte, Rows)
	for row := range out {
		out[row] = '0'
		if has(row) {
			out[row] = '1'
		}
	}
	return Table(out)
}

// TableOfFilter answers the events of a filter.
func TableOfFilter(list []Masks) Table {
	return TableOf(func(row int) bool {
		return slices.ContainsFunc(list, func(m Masks) bool {
			for attr, piece := range Of(row) {
				if m[attr]>>piece&1 == 0 {
					return false
				}
			}
			return true
		})
	})
}

// Has tells whether the events of a row are meant.
func (a Table) Has(row int) bool { return a[row] == '1' }

// And: those of both.
func (a Table) And(b Table) Table {
	return TableOf(func(row int) bool { return a.Has(row) && b.Has(row) })
}

// Or: those of one of two.
func (a Table) Or(b Table) Table {
	return TableOf(func(row int) bool { return a.Has(row) || b.Has(row) })
}

// Not: the others.
func (a Table) Not() Table {
	return TableOf(func(row int) bool { return !a.Has(row) })
}

// Covers tells whether it has all that another one has.
func (a Table) Covers(b Table) bool { return a.Or(b) == a }

// Nodes is a second form of which nodes there are in a diagram: for each attribute, and each row of pieces of those ahead of it,
// what is left of the table is a node, if it hangs on that attribute.
func (a Table) Nodes() []string {
	var out []string
	long := Rows
	for attr := range api.Attrs {
		for at := 0; at < Rows; at += long {
			if rest := a[at : at+long]; rest.hangsOnFirst() {
				out = append(out, strconv.Itoa(attr)+":"+string(rest))
			}
		}
		long /= Count
	}
	slices.Sort(out)
	return slices.Compact(out)
}

func (a Table) hangsOnFirst() bool {
	long := len(a) / Count
	for piece := range Count {
		if a[piece*long:(piece+1)*long] != a[:long] {
			return true
		}
	}
	return false
}
