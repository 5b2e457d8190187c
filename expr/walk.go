package expr

import "arbour/api"

// Walk: all parts, with their depths.
func Walk(x api.Expr) func(yield func(int, api.Expr) bool) {
	if !Right(x) {
		return func(func(int, api.Expr) bool) {}
	}
	// The walk may be taken later, and more than once: it goes through a copy, and hands out copies of that.
	own := copied(x)
	return func(yield func(int, api.Expr) bool) {
		for depth, part := range eachPart(own) {
			if !yield(depth, copied(part)) {
				return
			}
		}
	}
}

// eachPart goes through the parts of any expression as they are, each ahead of its Sub, with their depths.
// It looks no further than it is asked to: an expression that holds itself has no end.
func eachPart(x api.Expr) func(yield func(int, api.Expr) bool) {
	return func(yield func(int, api.Expr) bool) { visit(0, x, yield) }
}

// visit answers whether to go on.
func visit(depth int, x api.Expr, yield func(int, api.Expr) bool) bool {
	if !yield(depth, x) {
		return false
	}
	for _, sub := range x.Sub {
		if !visit(depth+1, sub, yield) {
			return false
		}
	}
	return true
}
