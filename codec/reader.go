package codec

import (
	"math"
	"strings"

	"arbour/api"
)

// Reader: reads what was written.
type Reader struct {
	rest string    // empty from the first error on
	err  api.Errno // that one
}

// Read: one at the beginning of bytes.
func Read(s string) *Reader {
	return &Reader{rest: s}
}

// Byte: a byte.
func (r *Reader) Byte() byte {
	if r.Left() == 0 {
		r.Fail(api.ErrTorn)
		return 0
	}
	b := r.rest[0]
	r.rest = r.rest[1:]
	return b
}

// Uint: a number.
func (r *Reader) Uint() uint64 {
	var n uint64
	for {
		b := r.Byte()
		// Behind the first digit n is above 0, as a nought ahead is an error.
		noughtAhead := n == 0 && b == more
		if noughtAhead || n > math.MaxUint64/more {
			r.Fail(api.ErrForm)
		}
		if r.Err() != api.OK {
			return 0
		}
		n = n*more + uint64(b%more)
		if b < more {
			return n
		}
	}
}

// Int: one with a sign.
func (r *Reader) Int() int {
	n := r.Uint()
	half := int(n / 2)
	if n%2 == 1 {
		return -1 - half
	}
	return half
}

// Str: a text, no longer than so.
func (r *Reader) Str(most int) string {
	long := r.Uint()
	if long > uint64(max(most, 0)) {
		r.Fail(api.ErrLong)
	} else if long > uint64(r.Left()) {
		r.Fail(api.ErrTorn)
	}
	if r.Err() != api.OK {
		return ""
	}
	// A copy, lest a short text hold all of the bytes in memory.
	s := strings.Clone(r.rest[:long])
	r.rest = r.rest[long:]
	return s
}

// Left: how many bytes are left.
func (r *Reader) Left() int {
	if r == nil {
		return 0
	}
	return len(r.rest)
}

// Err: what went wrong first.
func (r *Reader) Err() api.Errno {
	if r == nil {
		return api.ErrNil
	}
	return r.err
}

// Fail: something is wrong.
func (r *Reader) Fail(e api.Errno) {
	if r == nil || r.err != api.OK || e == api.OK {
		return
	}
	r.err = e
	r.rest = ""
}
