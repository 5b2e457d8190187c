package cover_test

import (
	"testing"

	"arbour/api"
	"arbour/cover"
	"arbour/pieces"
)

// wish is a filter, and what a table of all its events tells of it.
type wish struct {
	filter api.Filter
	events table
	size   int
}

func wishOf(list []masks) wish {
	events := pieces.TableOfFilter(list)
	return wish{pieces.Filter(list), events, len(events.Nodes())}
}

// wishes answers some filters, among them such as lie in each other.
func wishes(d *dice, n int) []wish {
	var out []wish
	for range n {
		list := d.Some(4)
		out = append(out, wishOf(list))
		out = append(out, wishOf(d.Below(list)))
	}
	return out
}

// check asks all that can be asked of two filters, and answers how often the judge didn't know.
func check(t *testing.T, j *cover.Judge, budget int, a, b wish) int {
	t.Helper()
	size := max(a.size, b.size)
	if got := j.Size(a.filter, b.filter); got != size {
		t.Fatalf("%v, %v: the size %d, not %d", a.filter, b.filter, got, size)
	}
	knows := size <= max(budget, 0)
	if yes, known := j.Covers(a.filter, b.filter); yes != (knows && a.events.Covers(b.events)) || known != knows {
		t.Fatalf("a budget of %d: %v covers %v: %v, %v", budget, a.filter, b.filter, yes, known)
	}
	if yes, known := j.Same(a.filter, b.filter); yes != (knows && a.events == b.events) || known != knows {
		t.Fatalf("a budget of %d: %v is the same as %v: %v, %v", budget, a.filter, b.filter, yes, known)
	}
	if knows {
		return 0
	}
	return 2
}

// P11.1, P11.2: of each pair of some filters, asked twice, within each budget.
func TestFiltersOfEachBudget(t *testing.T) {
	d := dice(11)
	for n := range 40 {
		list := wishes(&d, 3)
		budget := n - 2
		j := cover.New(budget)
		asked, unknown := 0, 0
		for range 2 {
			for _, a := range list {
				for _, b := range list {
					asked, unknown = asked+2, unknown+check(t, j, budget, a, b)
				}
			}
		}
		if a, u := j.Counts(); a != asked || u != unknown {
			t.Fatalf("asked %d, not %d; unknown %d, not %d", a, asked, u, unknown)
		}
	}
}

// P11.3
func TestCoveringGoesOverTwoSteps(t *testing.T) {
	d := dice(5)
	steps := 0
	for range 30 {
		j := cover.New(api.Beta)
		list := wishes(&d, 4)
		covers := func(a, b wish) bool {
			yes, known := j.Covers(a.filter, b.filter)
			if !known {
				t.Fatalf("%v, %v: not known", a.filter, b.filter)
			}
			return yes
		}
		for _, a := range list {
			for _, b := range list {
				for _, c := range list {
					if !covers(a, b) || !covers(b, c) {
						continue
					}
					steps++
					if !covers(a, c) {
						t.Fatalf("%v covers %v, and that %v, but not the first one the last one", a.filter, b.filter, c.filter)
					}
				}
			}
		}
	}
	if steps < 1000 {
		t.Errorf("only %d steps", steps)
	}
}
