package diagram_test

import (
	"math"
	"slices"
	"strconv"

	"arbour/api"
	"arbour/set"
)

func number(n int) api.Value { return api.Value{Kind: api.Int, N: n} }

func str(s string) api.Value { return api.Value{Kind: api.Str, S: s} }

func r(lo, hi int) api.Range { return api.Range{Lo: lo, Hi: hi} }

func ints(list ...api.Range) api.Set { return api.Set{Ints: list} }

func strs(list ...string) api.Set { return api.Set{Strs: list} }

func others(list ...string) api.Set { return api.Set{Co: true, Strs: list} }

func all() api.Box { return api.Box{set.All(), set.All(), set.All(), set.All()} }

// with lays the box of all events, but for an attribute.
func with(attr int, s api.Set) api.Box {
	b := all()
	b[attr] = s
	return b
}

// All values in six pieces, a bit of a mask for each: the tests lay their sets out of these,
// so that the events of a filter are known from the masks.
const (
	absent = 1 << iota
	low
	middle
	high
	x
	notX

	pieces    = 6
	allPieces = 1<<pieces - 1
	allRows   = pieces * pieces * pieces * pieces
)

func numberPieces() []api.Range {
	return []api.Range{r(math.MinInt, 0), r(1, 5), r(6, math.MaxInt)}
}

// valuesOf answers the values at the edges of a piece.
func valuesOf(piece int) []api.Value {
	switch 1 << piece {
	case absent:
		return []api.Value{{}}
	case x:
		return []api.Value{str("x")}
	case notX:
		return []api.Value{str(""), str("abcdefgh")}
	}
	c := numberPieces()[piece-1]
	return []api.Value{number(c.Lo), number(c.Hi)}
}

// setOf lays the right set of just the pieces whose bits are set.
func setOf(mask int) api.Set {
	s := api.Set{Absent: mask&absent != 0, Co: mask&notX != 0}
	for i, c := range numberPieces() {
		switch last := len(s.Ints) - 1; {
		case mask&(low<<i) == 0:
		case last >= 0 && s.Ints[last].Hi+1 == c.Lo:
			s.Ints[last].Hi = c.Hi
		default:
			s.Ints = append(s.Ints, c)
		}
	}
	if s.Co != (mask&x != 0) {
		s.Strs = []string{"x"}
	}
	return s
}

// masks are what a box is laid of: the pieces of each of its sets.
type masks [api.Attrs]int

func (m masks) box() api.Box {
	var b api.Box
	for attr, mask := range m {
		b[attr] = setOf(mask)
	}
	return b
}

func filterOf(list []masks) api.Filter {
	var f api.Filter
	for _, m := range list {
		f = append(f, m.box())
	}
	return f
}

// piecesOf answers the pieces of which a row is, for each attribute; of attribute 0 the outermost order.
func piecesOf(row int) [api.Attrs]int {
	var out [api.Attrs]int
	for attr := api.Attrs - 1; attr >= 0; attr-- {
		out[attr] = row % pieces
		row /= pieces
	}
	return out
}

func eventOf(row int) api.Event {
	var e api.Event
	for attr, piece := range piecesOf(row) {
		values := valuesOf(piece)
		e[attr] = values[(row+attr)%len(values)]
	}
	return e
}

// table says of each row of pieces whether its events are meant: a byte each, '1' or '0'.
type table string

func tableOf(has func(row int) bool) table {
	out := make([]byte, allRows)
	for row := range out {
		out[row] = '0'
		if has(row) {
			out[row] = '1'
		}
	}
	return table(out)
}

func tableOfFilter(list []masks) table {
	return tableOf(func(row int) bool {
		return slices.ContainsFunc(list, func(m masks) bool {
			for attr, piece := range piecesOf(row) {
				if m[attr]>>piece&1 == 0 {
					return false
				}
			}
			return true
		})
	})
}

func (a table) and(b table) table {
	return tableOf(func(row int) bool { return a[row] == '1' && b[row] == '1' })
}

func (a table) or(b table) table {
	return tableOf(func(row int) bool { return a[row] == '1' || b[row] == '1' })
}

func (a table) not() table {
	return tableOf(func(row int) bool { return a[row] == '0' })
}

// nodes is a second form of which nodes there are in a diagram: for each attribute, and each row of pieces of those ahead of it,
// what is left of the table is a node, if it hangs on that attribute.
func (a table) nodes() []string {
	var out []string
	long := allRows
	for attr := range api.Attrs {
		for at := 0; at < allRows; at += long {
			if rest := a[at : at+long]; rest.hangsOnFirst() {
				out = append(out, strconv.Itoa(attr)+":"+string(rest))
			}
		}
		long /= pieces
	}
	slices.Sort(out)
	return slices.Compact(out)
}

func (a table) hangsOnFirst() bool {
	long := len(a) / pieces
	for piece := range pieces {
		if a[piece*long:(piece+1)*long] != a[:long] {
			return true
		}
	}
	return false
}

// parts tells whether a set of pieces has just one of two that lie side by side: 0 low and middle, 1 middle and high, 2 x and notX.
func parts(mask, pair int) bool {
	switch pair {
	case 0:
		return mask&low != 0 != (mask&middle != 0)
	case 1:
		return mask&middle != 0 != (mask&high != 0)
	}
	return mask&x != 0 != (mask&notX != 0)
}

func anyParts(list []masks, attr, pair int) bool {
	return slices.ContainsFunc(list, func(m masks) bool { return parts(m[attr], pair) })
}

// cuts is a second form of whether a set of a filter cuts a cell of a grid: it parts what no set of the grid does.
func cuts(list, grid []masks) bool {
	for attr := range api.Attrs {
		for pair := range 3 {
			if anyParts(list, attr, pair) && !anyParts(grid, attr, pair) {
				return true
			}
		}
	}
	return false
}

// dice is a row of numbers, always the same one.
type dice uint64

func (d *dice) roll(n int) int {
	*d = *d*6364136223846793005 + 1442695040888963407
	return int(uint64(*d)>>33) % n
}

// some answers boxes of a filter: at most n, none empty, none in another one.
func (d *dice) some(n int) []masks {
	var out []masks
	for range d.roll(n + 1) {
		var m masks
		for attr := range m {
			m[attr] = allPieces
			if d.roll(3) > 0 {
				m[attr] = d.roll(allPieces) + 1
			}
		}
		lies := func(o masks) bool { return in(m, o) || in(o, m) }
		if !slices.ContainsFunc(out, lies) {
			out = append(out, m)
		}
	}
	return out
}

func in(m, o masks) bool {
	for attr := range m {
		if m[attr]&^o[attr] != 0 {
			return false
		}
	}
	return true
}

// fullFilter answers four boxes that have at each attribute a cell for each choice of them: the numbers from 0 to 15, in an order
// in which a number is in one box more or less than the one ahead of it, so that no set has more ranges than may be.
func fullFilter() api.Filter {
	f := make(api.Filter, 4)
	for at := range f {
		var list []api.Range
		for n := range 16 {
			if (n^n>>1)>>at&1 == 1 {
				list = append(list, r(n, n))
			}
		}
		for attr := range api.Attrs {
			f[at][attr] = ints(set.Ranges(list...)...)
		}
	}
	return f
}
