// Package value is layer 1: see shared/doc/01-value.md.
package value

import (
	"cmp"

	"arbour/api"
)

// Right: may it be?.
func Right(v api.Value) bool {
	switch v.Kind {
	case api.Absent:
		return v.N == 0 && v.S == ""
	case api.Int:
		return v.S == ""
	case api.Str:
		return v.N == 0 && len(v.S) <= api.MaxString
	}
	return false
}

// Event: may an event be?.
func Event(e api.Event) bool {
	for _, v := range e {
		if !Right(v) {
			return false
		}
	}
	return true
}

// Order: which one comes first.
func Order(a, b api.Value) int {
	// The kinds' numbers rise as the document orders them: absent, numbers, strings.
	if a.Kind != b.Kind {
		return cmp.Compare(a.Kind, b.Kind)
	}
	switch a.Kind {
	case api.Int:
		return cmp.Compare(a.N, b.N)
	case api.Str:
		return cmp.Compare(a.S, b.S)
	}
	return 0
}
