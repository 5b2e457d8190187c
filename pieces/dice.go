package pieces

import (
	"slices"

	"arbour/api"
)

// Dice is a row of numbers, always the same one.
type Dice uint64

// Roll answers a number below n.
func (d *Dice) Roll(n int) int {
	*d = *d*6364136223846793005 + 1442695040888963407
	return int(uint64(*d)>>33) % n
}

// Some answers boxes of a filter: at most n, none empty, none in another one.
func (d *Dice) Some(n int) []Masks {
	var out []Masks
	for range d.Roll(n + 1) {
		var m Masks
		for attr := range m {
			m[attr] = Each
			if d.Roll(3) > 0 {
				m[attr] = d.Roll(Each) + 1
			}
		}
		lies := func(o Masks) bool { return m.In(o) || o.In(m) }
		if !slices.ContainsFunc(out, lies) {
			out = append(out, m)
		}
	}
	return out
}

// Below answers boxes of a filter whose events lie in those of another one.
func (d *Dice) Below(list []Masks) []Masks {
	out := slices.Clone(list)
	for at := range out {
		out[at][d.Roll(api.Attrs)] &= d.Roll(Each + 1)
	}
	return Tidied(out)
}
