package dnf_test

import (
	"math"
	"slices"

	"arbour/api"
	"arbour/set"
)

func number(n int) api.Value { return api.Value{Kind: api.Int, N: n} }

func str(s string) api.Value { return api.Value{Kind: api.Str, S: s} }

func r(lo, hi int) api.Range { return api.Range{Lo: lo, Hi: hi} }

func ints(list ...api.Range) api.Set { return api.Set{Ints: list} }

func strs(list ...string) api.Set { return api.Set{Strs: list} }

func others(list ...string) api.Set { return api.Set{Co: true, Strs: list} }

// The tests lay expressions and boxes without calls of packages expr and box.
func atom(attr int, s api.Set) api.Expr { return api.Expr{Kind: api.EAtom, Attr: attr, Set: s} }

func and(list ...api.Expr) api.Expr { return api.Expr{Kind: api.EAnd, Sub: list} }

func or(list ...api.Expr) api.Expr { return api.Expr{Kind: api.EOr, Sub: list} }

func not(list ...api.Expr) api.Expr { return api.Expr{Kind: api.ENot, Sub: list} }

func all() api.Box { return api.Box{set.All(), set.All(), set.All(), set.All()} }

// with lays the box of all events, but for an attribute.
func with(attr int, s api.Set) api.Box {
	b := all()
	b[attr] = s
	return b
}

// All values in six pieces, a bit of a mask for each: a set of these is laid in one form alone,
// so that what and, not and in of sets and boxes are is known from the masks.
const (
	absent = 1 << iota
	low
	middle
	high
	x
	notX

	pieces    = 6
	allPieces = 1<<pieces - 1
)

func numberPieces() []api.Range {
	return []api.Range{r(math.MinInt, 0), r(1, 5), r(6, math.MaxInt)}
}

// valuesOf answers the values at the edges of a piece.
func valuesOf(piece int) []api.Value {
	switch 1 << piece {
	case absent:
		return []api.Value{{}}
	case x:
		return []api.Value{str("x")}
	case notX:
		return []api.Value{str(""), str("abcdefgh")}
	}
	c := numberPieces()[piece-1]
	return []api.Value{number(c.Lo), number(c.Hi)}
}

// setOf lays the right set of just the pieces whose bits are set.
func setOf(mask int) api.Set {
	s := api.Set{Absent: mask&absent != 0, Co: mask&notX != 0}
	for i, c := range numberPieces() {
		switch last := len(s.Ints) - 1; {
		case mask&(low<<i) == 0:
		case last >= 0 && s.Ints[last].Hi+1 == c.Lo:
			s.Ints[last].Hi = c.Hi
		default:
			s.Ints = append(s.Ints, c)
		}
	}
	if s.Co != (mask&x != 0) {
		s.Strs = []string{"x"}
	}
	return s
}

// masks are what a box is laid of: the pieces of each of its sets.
type masks [api.Attrs]int

func allMasks() masks { return masks{allPieces, allPieces, allPieces, allPieces} }

func (m masks) box() api.Box {
	var b api.Box
	for attr, mask := range m {
		b[attr] = setOf(mask)
	}
	return b
}

func (m masks) and(n masks) masks {
	for attr := range m {
		m[attr] &= n[attr]
	}
	return m
}

func (m masks) empty() bool { return slices.Contains(m[:], 0) }

func (m masks) in(n masks) bool {
	return m.empty() || m.and(n) == m
}

func boxesOf(list []masks) []api.Box {
	var out []api.Box
	for _, m := range list {
		out = append(out, m.box())
	}
	return out
}

// tidy says the document's words one by one, each box held against all others as they were handed in.
func tidy(list []masks) []masks {
	var out []masks
	for i, m := range list {
		leave := m.empty()
		for j, n := range list {
			leave = leave || j != i && m.in(n) && (!n.in(m) || j < i)
		}
		if !leave {
			out = append(out, m)
		}
	}
	return out
}

// told is an expression and what the document says of it: its boxes, those of its not, and whether either is too much.
type told struct {
	x                api.Expr
	boxes, nots      []masks
	tooMuch, notMuch bool
}

func tellAtom(attr, mask int) told {
	a, b := allMasks(), allMasks()
	a[attr], b[attr] = mask, allPieces&^mask
	return told{x: atom(attr, setOf(mask)), boxes: tidy([]masks{a}), nots: tidy([]masks{b})}
}

func tellNot(a told) told {
	return told{x: not(a.x), boxes: a.nots, nots: a.boxes, tooMuch: a.notMuch, notMuch: a.tooMuch}
}

func tellAnd(list ...told) told {
	out := told{x: and(), boxes: []masks{allMasks()}}
	for _, a := range list {
		out.x.Sub = append(out.x.Sub, a.x)
		out.boxes = times(out.boxes, a.boxes)
		out.nots = tidy(slices.Concat(out.nots, a.nots))
		out.tooMuch = out.tooMuch || a.tooMuch || len(out.boxes) > 16
		out.notMuch = out.notMuch || a.notMuch || len(out.nots) > 16
	}
	return out
}

func tellOr(list ...told) told {
	out := told{x: or(), nots: []masks{allMasks()}}
	for _, a := range list {
		out.x.Sub = append(out.x.Sub, a.x)
		out.boxes = tidy(slices.Concat(out.boxes, a.boxes))
		out.nots = times(out.nots, a.nots)
		out.tooMuch = out.tooMuch || a.tooMuch || len(out.boxes) > 16
		out.notMuch = out.notMuch || a.notMuch || len(out.nots) > 16
	}
	return out
}

func times(a, b []masks) []masks {
	var out []masks
	for _, m := range a {
		for _, n := range b {
			out = append(out, m.and(n))
		}
	}
	return tidy(out)
}

func equalSets(a, b api.Set) bool {
	return a.Absent == b.Absent && a.Co == b.Co && slices.Equal(a.Ints, b.Ints) && slices.Equal(a.Strs, b.Strs)
}

func equal(a, b api.Box) bool {
	for attr := range a {
		if !equalSets(a[attr], b[attr]) {
			return false
		}
	}
	return true
}

func equalLists(a, b []api.Box) bool { return slices.EqualFunc(a, b, equal) }

// dice is a row of numbers, always the same one.
type dice uint64

func (d *dice) roll(n int) int {
	*d = *d*6364136223846793005 + 1442695040888963407
	return int(uint64(*d)>>33) % n
}
