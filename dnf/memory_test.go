package dnf_test

import (
	"slices"
	"testing"

	"arbour/api"
	"arbour/dnf"
)

// roomySet lays a set whose lists have spare room, with something in it that must stay.
func roomySet(s api.Set) api.Set {
	s.Ints = append(slices.Clone(s.Ints), r(-99, -98), r(98, 99), r(5, 1))[:len(s.Ints)]
	s.Strs = append(slices.Clone(s.Strs), "spare", "room", "")[:len(s.Strs)]
	return s
}

func roomyBox(b api.Box) api.Box {
	for attr := range b {
		b[attr] = roomySet(b[attr])
	}
	return b
}

// roomy lays boxes in new memory, with spare room at every list of them.
func roomy(list []api.Box) []api.Box {
	var out []api.Box
	for _, b := range list {
		out = append(out, roomyBox(b))
	}
	return append(out, roomyBox(with(1, strs("spare"))), api.Box{}, roomyBox(all()))[:len(list)]
}

func roomyExpr(y api.Expr) api.Expr {
	y.Set = roomySet(y.Set)
	var subs []api.Expr
	for _, sub := range y.Sub {
		subs = append(subs, roomyExpr(sub))
	}
	y.Sub = append(subs, atom(1, strs("spare")), not(and()))[:len(y.Sub)]
	return y
}

// wholeSet answers a copy of a set, whose lists go to the end of their room; so do whole and wholeExpr.
func wholeSet(s api.Set) api.Set {
	s.Ints, s.Strs = slices.Clone(s.Ints[:cap(s.Ints)]), slices.Clone(s.Strs[:cap(s.Strs)])
	return s
}

func whole(list []api.Box) []api.Box {
	out := slices.Clone(list[:cap(list)])
	for i := range out {
		for attr := range out[i] {
			out[i][attr] = wholeSet(out[i][attr])
		}
	}
	return out
}

func wholeExpr(y api.Expr) api.Expr {
	y.Set, y.Sub = wholeSet(y.Set), slices.Clone(y.Sub[:cap(y.Sub)])
	for i := range y.Sub {
		y.Sub[i] = wholeExpr(y.Sub[i])
	}
	return y
}

// spoilSet writes over all of a set's lists, their spare room too; so do spoil and spoilExpr.
func spoilSet(s api.Set) {
	numbers, texts := s.Ints[:cap(s.Ints)], s.Strs[:cap(s.Strs)]
	for i := range numbers {
		numbers[i] = r(-12345, 12345)
	}
	for i := range texts {
		texts[i] = "spoiled"
	}
}

func spoil(list []api.Box) {
	list = list[:cap(list)]
	for i, b := range list {
		for _, s := range b {
			spoilSet(s)
		}
		list[i] = with(2, strs("spoiled"))
	}
}

func spoilExpr(y api.Expr) {
	spoilSet(y.Set)
	subs := y.Sub[:cap(y.Sub)]
	for i := range subs {
		spoilExpr(subs[i])
		subs[i] = api.Expr{Kind: 77, Attr: 77}
	}
}

func equalExprs(a, b api.Expr) bool {
	return a.Kind == b.Kind && a.Attr == b.Attr && equalSets(a.Set, b.Set) && slices.EqualFunc(a.Sub, b.Sub, equalExprs)
}

// listsToSpoil: tidy ones and others, of right boxes and of others.
func listsToSpoil() [][]api.Box {
	few, wrong := boxesOf(fewMasks()), wrongBoxes()
	out := [][]api.Box{nil, {}, {{}}, {all(), all()}, few, apart(4), apart(17), wrong}
	d := dice(3)
	for i := range few {
		out = append(out, few[i:i+1], few[i:], few[:i], []api.Box{few[i], few[i], few[len(few)-1-i]}, boxesOf(someMasks(&d, i)))
	}
	for i := range wrong {
		out = append(out, wrong[i:i+1], []api.Box{all(), wrong[i], few[i%len(few)], wrong[i]})
	}
	return out
}

// exprsToSpoil: those that become filters, those that are too much, and those that mayn't be, but for endless ones.
func exprsToSpoil() []api.Expr {
	a, b := atom(0, ints(r(1, 5), r(7, 9))), atom(1, others("a", "b"))
	out := []api.Expr{
		and(), or(), a, b, not(a), not(b), and(a), or(a), and(a, b), or(a, b), or(b, a, b), and(or(a, b), or(a, not(b))), not(or(a, not(b))), not(and(a, b)),
		or(points(0, 5)...), or(points(0, 17)...), and(nots(points(0, 7))...), and(or(points(0, 4)...), or(points(1, 5)...)),
	}
	d := dice(4)
	for range 100 {
		out = append(out, grow(&d, 4, 3).x)
	}
	return append(out, wrongParts()...)
}

// P6.1: what is handed in stays, its spare room too, whatever becomes of the answers.
func TestListsHandedInStay(t *testing.T) {
	for _, list := range listsToSpoil() {
		for _, other := range [][]api.Box{list, nil, boxesOf(fewMasks()[4:6])} {
			a, b := roomy(list), roomy(other)
			wantA, wantB := whole(a), whole(b)
			dnf.Right(a)
			dnf.Has(a, api.Event{number(1), str("x")})
			dnf.Same(a, b)
			dnf.Same(b, a)
			spoil(dnf.Tidy(a))
			if !equalLists(whole(a), wantA) || !equalLists(whole(b), wantB) {
				t.Fatalf("%v, %v: changed", list, other)
			}
		}
	}
}

// P6.1
func TestExprsHandedInStay(t *testing.T) {
	for _, plain := range exprsToSpoil() {
		y := roomyExpr(plain)
		want := wholeExpr(y)
		f, _ := dnf.Of(y)
		spoil(f)
		if !equalExprs(wholeExpr(y), want) {
			t.Fatalf("%v: changed", plain)
		}
	}
}

// P6.1: an answer shares nothing with another one, and doesn't change with what was handed in.
func TestAnswersAreNewMemory(t *testing.T) {
	for _, plain := range listsToSpoil() {
		list := roomy(plain)
		got := dnf.Tidy(list)
		want := whole(got)
		spoil(dnf.Tidy(list))
		spoil(list)
		if !equalLists(whole(got), want) {
			t.Fatalf("Tidy(%v) shares memory", plain)
		}
	}
	for _, plain := range exprsToSpoil() {
		y := roomyExpr(plain)
		got, _ := dnf.Of(y)
		want := whole(got)
		again, _ := dnf.Of(y)
		spoil(again)
		spoilExpr(y)
		if !equalLists(whole(got), want) {
			t.Fatalf("Of(%v) shares memory", plain)
		}
	}
}

// checkApart spoils one list of an answer after the other, and looks at all others.
func checkApart(t *testing.T, ask func() []api.Box) {
	t.Helper()
	n := len(ask())
	for i := range n * api.Attrs {
		got := ask()
		want := whole(got)
		spoilSet(got[i/api.Attrs][i%api.Attrs])
		for k := range n * api.Attrs {
			if k != i && !equalSets(wholeSet(got[k/api.Attrs][k%api.Attrs]), want[k/api.Attrs][k%api.Attrs]) {
				t.Fatalf("sets %d and %d of one answer share memory", i, k)
			}
		}
	}
}

// P6.1: no two lists of one answer share memory, not even where those handed in do.
func TestListsOfAnAnswerAreApart(t *testing.T) {
	s := roomySet(api.Set{Ints: []api.Range{r(1, 2), r(4, 5)}, Strs: []string{"a", "b"}})
	list := []api.Box{{s, s, s, others("x")}, {s, s, others("x"), s}, {s, others("x"), s, s}, {s, s, s, s}}
	if n := len(dnf.Tidy(list)); n != 4 {
		t.Fatalf("%d boxes", n)
	}
	checkApart(t, func() []api.Box { return dnf.Tidy(list) })
	a, b, c, d := atom(0, s), atom(1, s), atom(2, s), atom(3, s)
	for _, y := range []api.Expr{a, and(a, b, c, d), or(a, b, c, d), and(or(a, b), or(c, d)), or(and(a, b), and(a, c), and(b, d)), and(a, or(b, c, d)), not(and(a, b, c)), not(or(a, and(b, c)))} {
		if f, err := dnf.Of(y); err != api.OK || len(f) == 0 {
			t.Fatalf("Of(%v): %d", y, err)
		}
		checkApart(t, func() []api.Box {
			f, _ := dnf.Of(y)
			return f
		})
	}
}
