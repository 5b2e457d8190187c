package value

import (
	"strconv"
	"strings"

	"arbour/api"
)

// Read: the value at the beginning of a text.
func Read(s string) (v api.Value, long int, ok bool) {
	if s == "" {
		return api.Value{}, 0, false
	}
	if s[0] == quote {
		return readString(s)
	}
	if end := numberEnd(s); end > 0 {
		return readNumber(s[:end])
	}
	if s[0] == '-' {
		return api.Value{Kind: api.Absent}, 1, true
	}
	return api.Value{}, 0, false
}

// readString reads a text that begins with the opening mark.
func readString(s string) (v api.Value, long int, ok bool) {
	text := make([]byte, 0, api.MaxString)
	at := 1
	for at < len(s) && s[at] != quote {
		c, wide := readByte(s[at:])
		if wide == 0 || len(text) == api.MaxString {
			return api.Value{}, 0, false
		}
		text = append(text, c)
		at += wide
	}
	if at == len(s) {
		return api.Value{}, 0, false
	}
	return api.Value{Kind: api.Str, S: string(text)}, at + 1, true
}

// readByte answers the byte that s, which is not empty, begins with, and how wide it is written; 0 wide, if Quote writes no byte so.
func readByte(s string) (c byte, wide int) {
	if s[0] != escape {
		if escaped(s[0]) {
			return 0, 0
		}
		return s[0], 1
	}
	if len(s) < 3 {
		return 0, 0
	}
	high, low := strings.IndexByte(digits, s[1]), strings.IndexByte(digits, s[2])
	if high < 0 || low < 0 {
		return 0, 0
	}
	c = byte(16*high + low)
	if !escaped(c) {
		return 0, 0
	}
	return c, 3
}

// numberEnd answers where the digits end that s begins with, be it with a - ahead; 0, if there are none.
func numberEnd(s string) int {
	start := 0
	if s[0] == '-' {
		start = 1
	}
	end := start
	for end < len(s) && '0' <= s[end] && s[end] <= '9' {
		end++
	}
	if end == start {
		return 0
	}
	return end
}

// readNumber reads a text that is digits alone, be it with a - ahead.
func readNumber(s string) (v api.Value, long int, ok bool) {
	n, err := strconv.Atoi(s)
	// A number is written in one way alone, which rules out noughts ahead and -0.
	if err != nil || strconv.Itoa(n) != s {
		return api.Value{}, 0, false
	}
	return api.Value{Kind: api.Int, N: n}, len(s), true
}
