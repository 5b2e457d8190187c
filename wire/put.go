package wire

import (
	"strings"

	"arbour/api"
	"arbour/codec"
)

// The bits of a set's first byte.
const (
	bitAbsent = 1
	bitCo     = 2
	bitsOfAll = bitAbsent | bitCo
)

// PutFilter: its bytes, without a look.
func PutFilter(f api.Filter) string {
	var out strings.Builder
	putCount(&out, len(f))
	for _, b := range f {
		for _, s := range b {
			putSet(&out, s)
		}
	}
	return out.String()
}

// PutEvent: its bytes, without a look.
func PutEvent(e api.Event) string {
	var out strings.Builder
	for _, v := range e {
		putValue(&out, v)
	}
	return out.String()
}

func putCount(out *strings.Builder, n int) { out.WriteString(codec.Uint(uint64(n))) }

func putSet(out *strings.Builder, s api.Set) {
	var first byte
	if s.Absent {
		first |= bitAbsent
	}
	if s.Co {
		first |= bitCo
	}
	out.WriteByte(first)
	putCount(out, len(s.Ints))
	for _, r := range s.Ints {
		out.WriteString(codec.Int(r.Lo))
		out.WriteString(codec.Int(r.Hi))
	}
	putCount(out, len(s.Strs))
	for _, str := range s.Strs {
		out.WriteString(codec.Str(str))
	}
}

func putValue(out *strings.Builder, v api.Value) {
	out.WriteByte(byte(v.Kind))
	switch v.Kind {
	case api.Int:
		out.WriteString(codec.Int(v.N))
	case api.Str:
		out.WriteString(codec.Str(v.S))
	}
}
