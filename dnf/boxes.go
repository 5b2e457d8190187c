package dnf

import (
	"slices"

	"arbour/api"
	"arbour/box"
	"arbour/set"
)

// boxesOf answers the boxes of an expression that may be, or of its not; false, if it is too much anywhere.
// They share no memory with the expression, nor with each other.
func boxesOf(x api.Expr, not bool) ([]api.Box, bool) {
	switch {
	case x.Kind == api.EAtom:
		return tidied([]api.Box{atomBox(x, not)}), true
	case x.Kind == api.ENot:
		return boxesOf(x.Sub[0], !not)
	case (x.Kind == api.EAnd) != not:
		return gathered([]api.Box{box.All()}, product, x.Sub, not)
	}
	return gathered(nil, sum, x.Sub, not)
}

func atomBox(x api.Expr, not bool) api.Box {
	if not {
		return box.Atom(x.Attr, set.Not(x.Set))
	}
	return box.Atom(x.Attr, x.Set)
}

// gathered joins the boxes of each expression, or of its not, to a list that is begun; false, if it is too much anywhere.
func gathered(list []api.Box, join func(list, next []api.Box) []api.Box, subs []api.Expr, not bool) ([]api.Box, bool) {
	// Each is gone through, though the list may be such that nothing can change it any more: it may be too much itself.
	for _, sub := range subs {
		next, ok := boxesOf(sub, not)
		if !ok {
			return nil, false
		}
		list = tidied(join(list, next))
		if len(list) > api.MaxWork {
			return nil, false
		}
	}
	return list, true
}

func product(list, next []api.Box) []api.Box {
	out := make([]api.Box, 0, len(list)*len(next))
	for _, a := range list {
		for _, b := range next {
			out = append(out, box.And(a, b))
		}
	}
	return out
}

func sum(list, next []api.Box) []api.Box { return slices.Concat(list, next) }
