package value

import (
	"strconv"

	"arbour/api"
)

const (
	quote  = '\''
	escape = '\\'
	digits = "0123456789abcdef"
)

// escaped tells which bytes may not stand for themselves; Quote and Read share it, so that each string has one text alone.
func escaped(c byte) bool {
	return c < 32 || c > 126 || c == quote || c == escape
}

// Quote: a string as a text.
func Quote(s string) string {
	text := make([]byte, 0, len(s)+2)
	text = append(text, quote)
	for i := range len(s) {
		c := s[i]
		if escaped(c) {
			text = append(text, escape, digits[c/16], digits[c%16])
		} else {
			text = append(text, c)
		}
	}
	text = append(text, quote)
	return string(text)
}

// Text: a value as a text.
func Text(v api.Value) string {
	if !Right(v) {
		return ""
	}
	switch v.Kind {
	case api.Int:
		return strconv.Itoa(v.N)
	case api.Str:
		return Quote(v.S)
	}
	return "-"
}
