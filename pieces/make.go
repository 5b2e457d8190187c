// Package pieces lays what the tests of the layers ask about: filters and events out of six pieces of all values,
// so that a test knows a filter's events without the layer that it tests.
package pieces

import "arbour/api"

// Number answers a number as a value.
func Number(n int) api.Value { return api.Value{Kind: api.Int, N: n} }

// Str answers a string as a value.
func Str(s string) api.Value { return api.Value{Kind: api.Str, S: s} }

// R answers a range.
func R(lo, hi int) api.Range { return api.Range{Lo: lo, Hi: hi} }

// Ints answers the set of numbers in ranges.
func Ints(list ...api.Range) api.Set { return api.Set{Ints: append([]api.Range(nil), list...)} }

// Strs answers the set of some strings.
func Strs(list ...string) api.Set { return api.Set{Strs: append([]string(nil), list...)} }

// Others answers the set of all strings but some.
func Others(list ...string) api.Set {
	return api.Set{Co: true, Strs: append([]string(nil), list...)}
}

// All answers the box of all events.
func All() api.Box {
	var b api.Box
	for attr := range b {
		b[attr] = SetOf(Each)
	}
	return b
}

// With answers the box of all events, but for an attribute.
func With(attr int, s api.Set) api.Box {
	b := All()
	b[attr] = s
	return b
}

// Apart answers n boxes, none of which lies in another one.
func Apart(n int) api.Filter {
	var f api.Filter
	for i := range n {
		f = append(f, With(i%api.Attrs, Ints(R(i+20, i+20))))
	}
	return f
}

// Full answers four boxes that have at each attribute a cell for each choice of them: 16 numbers from a first one on, in an order
// in which a number is in one box more or less than the one ahead of it, so that no set has more ranges than may be.
func Full(first int) api.Filter {
	f := make(api.Filter, api.MaxBoxes)
	for at := range f {
		var list []api.Range
		for n := range 16 {
			if last := len(list) - 1; (n^n>>1)>>at&1 == 0 {
				continue
			} else if last >= 0 && list[last].Hi == first+n-1 {
				list[last].Hi++
			} else {
				list = append(list, R(first+n, first+n))
			}
		}
		for attr := range f[at] {
			f[at][attr] = Ints(list...)
		}
	}
	return f
}
