package codec_test

import (
	"math"
	"sort"
	"strconv"
	"strings"
	"testing"

	"arbour/codec"
)

// edges: the numbers around each change of length, and around the ends.
func edges() []uint64 {
	list := []uint64{0, 1, 2, 300, 1<<63 - 1, 1 << 63, 1<<63 + 1, math.MaxUint64 - 1, math.MaxUint64}
	for bits := 1; bits < 64; bits++ {
		p := uint64(1) << bits
		list = append(list, p-1, p, p+1, p|p>>1, p|1<<(bits/2))
	}
	return list
}

// signedEdges: the same of numbers with a sign.
func signedEdges() []int {
	list := []int{math.MinInt, math.MaxInt}
	for _, n := range edges() {
		list = append(list, int(n), -int(n), int(n/2), -1-int(n/2))
	}
	return list
}

// bytesByBits: a number's bytes in another way, by its digits to the base 2 in groups of seven.
func bytesByBits(n uint64) string {
	bits := strconv.FormatUint(n, 2)
	for len(bits)%7 != 0 {
		bits = "0" + bits
	}
	var out []byte
	for ; len(bits) > 7; bits = bits[7:] {
		out = append(out, byteOf("1"+bits[:7]))
	}
	return string(append(out, byteOf(bits)))
}

func byteOf(bits string) byte {
	n, err := strconv.ParseUint(bits, 2, 8)
	if err != nil {
		panic(err)
	}
	return byte(n)
}

// P2.1
func TestUint(t *testing.T) {
	for n, want := range map[uint64]string{
		0:                  "\x00",
		1:                  "\x01",
		127:                "\x7f",
		128:                "\x81\x00",
		255:                "\x81\x7f",
		256:                "\x82\x00",
		300:                "\x82\x2c",
		16383:              "\xff\x7f",
		16384:              "\x81\x80\x00",
		16384 + 5:          "\x81\x80\x05",
		1<<63 - 1:          "\xff\xff\xff\xff\xff\xff\xff\xff\x7f",
		1 << 63:            "\x81\x80\x80\x80\x80\x80\x80\x80\x80\x00",
		math.MaxUint64 - 1: "\x81\xff\xff\xff\xff\xff\xff\xff\xff\x7e",
		math.MaxUint64:     "\x81\xff\xff\xff\xff\xff\xff\xff\xff\x7f",
	} {
		if got := codec.Uint(n); got != want {
			t.Errorf("Uint(%d): %x, not %x", n, got, want)
		}
	}
}

// P2.1
func TestUintByBits(t *testing.T) {
	check := func(n uint64) {
		if got, want := codec.Uint(n), bytesByBits(n); got != want {
			t.Errorf("Uint(%d): %x, not %x", n, got, want)
		}
	}
	for n := range uint64(1 << 15) {
		check(n)
	}
	for _, n := range edges() {
		check(n)
	}
}

// P2.1
func TestInt(t *testing.T) {
	for n, want := range map[int]string{
		0:               "\x00",
		-1:              "\x01",
		1:               "\x02",
		-2:              "\x03",
		63:              "\x7e",
		-64:             "\x7f",
		64:              "\x81\x00",
		-65:             "\x81\x01",
		150:             "\x82\x2c",
		math.MaxInt:     "\x81\xff\xff\xff\xff\xff\xff\xff\xff\x7e",
		math.MinInt:     "\x81\xff\xff\xff\xff\xff\xff\xff\xff\x7f",
		math.MinInt + 1: "\x81\xff\xff\xff\xff\xff\xff\xff\xff\x7d",
	} {
		if got := codec.Int(n); got != want {
			t.Errorf("Int(%d): %x, not %x", n, got, want)
		}
	}
	for k := range 1 << 14 {
		if got, want := codec.Int(k), codec.Uint(2*uint64(k)); got != want {
			t.Errorf("Int(%d): %x, not %x", k, got, want)
		}
		if got, want := codec.Int(-1-k), codec.Uint(2*uint64(k)+1); got != want {
			t.Errorf("Int(%d): %x, not %x", -1-k, got, want)
		}
	}
}

// P2.1
func TestStr(t *testing.T) {
	for s, want := range map[string]string{
		"":                       "\x00",
		"a":                      "\x01a",
		"ab":                     "\x02ab",
		"\x00":                   "\x01\x00",
		"\xff\x80":               "\x02\xff\x80",
		"\u00e9":                 "\x02\u00e9",
		strings.Repeat("x", 127): "\x7f" + strings.Repeat("x", 127),
		strings.Repeat("x", 128): "\x81\x00" + strings.Repeat("x", 128),
		strings.Repeat("x", 300): "\x82\x2c" + strings.Repeat("x", 300),
	} {
		if got := codec.Str(s); got != want {
			t.Errorf("Str(%q): %x, not %x", s, got, want)
		}
	}
}

// P2.4
func TestNoNumberBeginsAnother(t *testing.T) {
	all := map[string]uint64{}
	numbers := edges()
	for n := range uint64(1 << 15) {
		numbers = append(numbers, n)
	}
	for _, n := range numbers {
		s := codec.Uint(n)
		if m, seen := all[s]; seen && m != n {
			t.Errorf("%d and %d are both %x", m, n, s)
		}
		all[s] = n
	}
	for s, n := range all {
		for end := range len(s) {
			if m, is := all[s[:end]]; is {
				t.Errorf("%d, %x, begins as %d, %x", n, s, m, s[:end])
			}
		}
	}
	signs := map[string]int{}
	for _, n := range signedEdges() {
		s := codec.Int(n)
		if m, seen := signs[s]; seen && m != n {
			t.Errorf("%d and %d are both %x", m, n, s)
		}
		signs[s] = n
	}
}

// P2.4
func TestBytesRiseWithNumbers(t *testing.T) {
	numbers := edges()
	for n := range uint64(1 << 15) {
		numbers = append(numbers, n)
	}
	sort.Slice(numbers, func(i, j int) bool { return numbers[i] < numbers[j] })
	for i, n := range numbers[1:] {
		m := numbers[i]
		a, b := codec.Uint(m), codec.Uint(n)
		if len(a) > len(b) {
			t.Errorf("%d has more bytes than %d: %x, %x", m, n, a, b)
		}
		if m < n && len(a) == len(b) && a >= b {
			t.Errorf("%d does not come ahead of %d: %x, %x", m, n, a, b)
		}
	}
}
