package value_test

import (
	"math"
	"sync"
	"testing"

	"arbour/api"
	"arbour/value"
)

func checkNames(t *testing.T, n *value.Names) {
	t.Helper()
	for attr, name := range []string{"a", "b", "c", "d"} {
		if got := n.Name(attr); got != name {
			t.Errorf("Name(%d): %q", attr, got)
		}
		if got := n.Attr(name); got != attr {
			t.Errorf("Attr(%q): %d", name, got)
		}
	}
	for _, attr := range []int{-1, api.Attrs, 5, math.MaxInt, math.MinInt} {
		if got := n.Name(attr); got != "" {
			t.Errorf("Name(%d): %q", attr, got)
		}
	}
	for _, name := range []string{"", "e", "A", "`", "aa", "ab", "a ", " a", "a\x00", "0", "\xff"} {
		if got := n.Attr(name); got != -1 {
			t.Errorf("Attr(%q): %d", name, got)
		}
	}
}

// P1.4
func TestNames(t *testing.T) {
	var n value.Names
	checkNames(t, &n)
	checkNames(t, &n)
	checkNames(t, new(value.Names))
	checkNames(t, nil)
}

// P1.4: whichever call comes first lays the names.
func TestFirstCallOfNames(t *testing.T) {
	if got := new(value.Names).Name(3); got != "d" {
		t.Errorf("Name(3): %q", got)
	}
	if got := new(value.Names).Attr("d"); got != 3 {
		t.Errorf("Attr(d): %d", got)
	}
	if got := new(value.Names).Attr(""); got != -1 {
		t.Errorf("Attr of the empty name: %d", got)
	}
}

// P1.4: several may ask the same Names at once.
func TestNamesAskedAtOnce(t *testing.T) {
	var n value.Names
	var all sync.WaitGroup
	for range 32 {
		all.Go(func() { checkNames(t, &n) })
	}
	all.Wait()
}
