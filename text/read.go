package text

import (
	"strings"

	"arbour/api"
	"arbour/value"
)

// reader goes through a text from its beginning on. Its calls give up by a panic, which read catches.
type reader struct {
	left  string
	names value.Names
}

// read answers what take makes of a text, if write makes just that text of it again.
func read[T any](s string, take func(*reader) T, write func(T) (string, api.Errno)) (what T, err api.Errno) {
	defer func() {
		if recover() != nil {
			var none T
			what, err = none, api.ErrForm
		}
	}()
	what = take(&reader{left: s})
	// A thing has one text alone. This rules out all that take lets pass: other orders, the same
	// thing twice, too many parts, and more behind the end.
	if again, wrong := write(what); wrong != api.OK || again != s {
		panic(api.ErrForm)
	}
	return what, api.OK
}

// has takes a mark, if it comes next.
func (r *reader) has(mark string) bool {
	rest, ok := strings.CutPrefix(r.left, mark)
	r.left = rest
	return ok
}

func (r *reader) need(mark string) {
	if !r.has(mark) {
		panic(api.ErrForm)
	}
}

// items takes one item after the other, up to the end's mark, which it takes, too.
func (r *reader) items(end string, item func()) {
	for first := true; !r.has(end); first = false {
		if !first {
			r.need(blank)
		}
		item()
	}
}

func (r *reader) value() api.Value {
	v, long, ok := value.Read(r.left)
	if !ok {
		panic(api.ErrForm)
	}
	r.left = r.left[long:]
	return v
}

func (r *reader) attr() int {
	for attr := range api.Attrs {
		if r.has(r.names.Name(attr)) {
			return attr
		}
	}
	panic(api.ErrForm)
}

func (r *reader) expr() api.Expr {
	switch {
	case r.has(and):
		return api.Expr{Kind: api.EAnd, Sub: r.list()}
	case r.has(or):
		return api.Expr{Kind: api.EOr, Sub: r.list()}
	case r.has(not):
		return api.Expr{Kind: api.ENot, Sub: []api.Expr{r.expr()}}
	}
	attr := r.attr()
	r.need(colon)
	return api.Expr{Kind: api.EAtom, Attr: attr, Set: r.set()}
}

func (r *reader) list() []api.Expr {
	var list []api.Expr
	r.need("(")
	r.items(")", func() { list = append(list, r.expr()) })
	return list
}

func (r *reader) set() api.Set {
	var s api.Set
	r.need("[")
	r.items("]", func() { r.part(&s) })
	return s
}

// part takes one part of a set, whichever comes next.
func (r *reader) part(s *api.Set) {
	if r.has(others) {
		s.Co = true
		return
	}
	switch v := r.value(); v.Kind {
	case api.Int:
		s.Ints = append(s.Ints, api.Range{Lo: v.N, Hi: r.highest(v.N)})
	case api.Str:
		s.Strs = append(s.Strs, v.S)
	default:
		s.Absent = true
	}
}

// highest takes the rest of a range that begins with lo.
func (r *reader) highest(lo int) int {
	if !r.has(upTo) {
		return lo
	}
	v := r.value()
	if v.Kind != api.Int {
		panic(api.ErrForm)
	}
	return v.N
}

func (r *reader) event() api.Event {
	var e api.Event
	r.need("{")
	r.items("}", func() {
		attr := r.attr()
		r.need(equals)
		e[attr] = r.value()
	})
	return e
}
