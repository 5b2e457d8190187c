package cover_test

import (
	"sync"
	"testing"

	"arbour/api"
	"arbour/cover"
	"arbour/pieces"
)

// P11.2: filters stay as they are, and what was told of them is told of their events, not of their memory.
func TestFiltersStayAndAreNotKept(t *testing.T) {
	d := dice(3)
	for range 60 {
		list := wishes(&d, 1)
		a, b := list[0], list[1]
		f, g := pieces.Roomy(a.filter), pieces.Roomy(b.filter)
		wholeF, wholeG := pieces.Whole(f), pieces.Whole(g)
		j := cover.New(api.Beta)
		check(t, j, api.Beta, wish{f, a.events, a.size}, wish{g, b.events, b.size})
		if !pieces.Stayed(f, wholeF) || !pieces.Stayed(g, wholeG) {
			t.Fatalf("%v, %v: changed", a.filter, b.filter)
		}
		pieces.Spoil(f)
		pieces.Spoil(g)
		check(t, j, api.Beta, a, b)
		check(t, j, api.Beta, b, a)
	}
}

// P11.2: what was told isn't told otherwise, and costs nothing but to find it again.
func TestToldAgain(t *testing.T) {
	f := pieces.Full(0)
	for _, budget := range []int{0, api.Beta} {
		j := cover.New(budget)
		yes, known := j.Covers(f, f[:3])
		size := j.Size(f, f[:3])
		made := testing.AllocsPerRun(10, func() {
			again, knows := j.Covers(f, f[:3])
			same, knowsSame := j.Same(f, f[:3])
			if again != yes || knows != known || same || knowsSame != known || j.Size(f, f[:3]) != size {
				t.Error("told otherwise")
			}
		})
		if fresh := testing.AllocsPerRun(1, func() { cover.New(budget).Covers(f, f[:3]) }); made > fresh {
			t.Errorf("%v pieces of memory, and %v of one that was told nothing", made, fresh)
		}
	}
}

// P11.2: what was told is told of what filters are, not of their memory.
func TestOtherFiltersInTheSameMemory(t *testing.T) {
	f, g := one(0, 1, 5), one(0, 2, 3)
	j := cover.New(1)
	for range 2 {
		for lo, want := range []bool{true, true, true, false, false} {
			f[0][0].Ints[0].Lo = lo
			if yes, known := j.Covers(f, g); yes != want || !known {
				t.Errorf("%d to 5 covers 2 to 3: %v, %v", lo, yes, known)
			}
			if yes, known := j.Same(g, f); yes || !known {
				t.Errorf("2 to 3 is the same as %d to 5: %v, %v", lo, yes, known)
			}
		}
	}
}

// P11.2: two judges know nothing of each other.
func TestJudgesAreApart(t *testing.T) {
	f := one(0, 1, 5)
	j, other := cover.New(1), cover.New(0)
	j.Covers(f, f)
	if asked, unknown := other.Counts(); asked != 0 || unknown != 0 {
		t.Errorf("asked %d, unknown %d", asked, unknown)
	}
	if yes, known := other.Covers(f, f); yes || known {
		t.Errorf("within 0: %v, %v", yes, known)
	}
	if asked, unknown := j.Counts(); asked != 1 || unknown != 0 {
		t.Errorf("asked %d, unknown %d", asked, unknown)
	}
}

// P11.2: Size isn't counted, nor is Counts.
func TestCounts(t *testing.T) {
	f, g := one(0, 1, 5), chain(2)
	j := cover.New(1)
	for i, c := range []struct {
		ask     func()
		unknown int
	}{
		{func() { j.Covers(f, f) }, 0}, {func() { j.Covers(f, f) }, 0}, {func() { j.Same(f, f) }, 0}, {func() { j.Covers(f, g) }, 1},
		{func() { j.Same(g, f) }, 2}, {func() { j.Same(nil, nil) }, 2}, {func() { j.Covers(f, pieces.Apart(5)) }, 3}, {func() { j.Covers(f, g) }, 4},
	} {
		c.ask()
		j.Size(f, g)
		j.Size(f, pieces.Apart(5))
		j.Counts()
		if asked, unknown := j.Counts(); asked != i+1 || unknown != c.unknown {
			t.Errorf("asked %d, not %d; unknown %d, not %d", asked, i+1, unknown, c.unknown)
		}
	}
}

// P11.2: others may look how often one asks, while one does.
func TestCountsWhileOthersLookOn(t *testing.T) {
	const times = 200
	f := one(0, 1, 5)
	j := cover.New(0)
	var others sync.WaitGroup
	for range 4 {
		others.Go(func() {
			last, lastUnknown := 0, 0
			for range 1000 {
				asked, unknown := j.Counts()
				if unknown > asked || asked < last || unknown < lastUnknown || asked > 2*times {
					t.Errorf("asked %d, unknown %d, and ahead of that %d, %d", asked, unknown, last, lastUnknown)
				}
				last, lastUnknown = asked, unknown
			}
		})
	}
	for range times {
		j.Covers(f, f)
		j.Same(f, f)
	}
	others.Wait()
	if asked, unknown := j.Counts(); asked != 2*times || unknown != 2*times {
		t.Errorf("asked %d, unknown %d", asked, unknown)
	}
}
