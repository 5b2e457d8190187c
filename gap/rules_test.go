package gap_test

import (
	"testing"

	"arbour/api"
	"arbour/box"
	"arbour/gap"
	"arbour/pieces"
)

// someEvents lays events of each piece, some of them away from the pieces' edges.
func someEvents(d *dice, n int) []api.Event {
	var out []api.Event
	for range n {
		e := pieces.Event(d.Roll(pieces.Rows))
		for attr := range e {
			if d.Roll(4) == 0 {
				e[attr] = number(d.Roll(12) - 3)
			}
		}
		out = append(out, e)
	}
	return out
}

func randomMasks(d *dice) masks {
	var m masks
	for attr := range m {
		m[attr] = pieces.Each
		if d.Roll(2) == 0 {
			m[attr] = d.Roll(pieces.Each + 1)
		}
	}
	return m
}

// P12.3: an event is in a box just if its distance is 0.
func TestNoughtJustIfIn(t *testing.T) {
	d := dice(1)
	in := 0
	for range 400 {
		b := randomMasks(&d).Box()
		for _, e := range someEvents(&d, 40) {
			has := box.Has(b, e)
			if got := gap.Box(b, e); (got == 0) != has {
				t.Fatalf("%v from %v: %d, and it is in: %v", e, b, got, has)
			}
			if has {
				in++
			}
		}
		for _, v := range pieces.WrongValues() {
			var e api.Event
			e[d.Roll(api.Attrs)] = v
			if gap.Box(b, e) == 0 || box.Has(b, e) {
				t.Fatalf("%v is in %v", e, b)
			}
		}
	}
	if in < 1000 {
		t.Errorf("only %d were in", in)
	}
}

// P12.3: of a box that lies in another one no event is nearer to the lesser one.
func TestNotNearerToTheLesserBox(t *testing.T) {
	d := dice(2)
	lies := 0
	for range 400 {
		m := randomMasks(&d)
		less := m
		less[d.Roll(api.Attrs)] &= d.Roll(pieces.Each + 1)
		less[d.Roll(api.Attrs)] &= d.Roll(pieces.Each + 1)
		lesser, greater := less.Box(), m.Box()
		if !box.In(lesser, greater) {
			t.Fatalf("%v isn't in %v", lesser, greater)
		}
		for _, e := range someEvents(&d, 40) {
			a, b := gap.Box(lesser, e), gap.Box(greater, e)
			if a < b {
				t.Fatalf("%v: %d from %v, and %d from %v", e, a, lesser, b, greater)
			}
			if a > b {
				lies++
			}
		}
	}
	if lies < 1000 {
		t.Errorf("only %d were farther", lies)
	}
}
