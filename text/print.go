package text

import (
	"strings"

	"arbour/api"
	"arbour/value"
)

// The marks that printing and reading share, beside brackets.
const (
	blank  = " "
	upTo   = ".."
	others = "~"
	colon  = ":"
	equals = "="
	and    = "&"
	or     = "|"
	not    = "!"
)

func rangeText(r api.Range) string {
	lo := value.Text(api.Value{Kind: api.Int, N: r.Lo})
	if r.Lo >= r.Hi {
		return lo
	}
	return lo + upTo + value.Text(api.Value{Kind: api.Int, N: r.Hi})
}

// exprText answers the text of an expression that may be, however long.
func exprText(names *value.Names, x api.Expr) string {
	switch x.Kind {
	case api.EAnd:
		return and + listText(names, x.Sub)
	case api.EOr:
		return or + listText(names, x.Sub)
	case api.ENot:
		return not + exprText(names, x.Sub[0])
	}
	return names.Name(x.Attr) + colon + Set(x.Set)
}

func listText(names *value.Names, list []api.Expr) string {
	var parts []string
	for _, x := range list {
		parts = append(parts, exprText(names, x))
	}
	return "(" + strings.Join(parts, blank) + ")"
}
