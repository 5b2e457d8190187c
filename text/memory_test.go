package text_test

import (
	"slices"
	"testing"

	"arbour/api"
	"arbour/text"
)

// roomySet lays a set whose lists have spare room, with something in it that must stay; so does roomy.
func roomySet(s api.Set) api.Set {
	s.Ints = append(slices.Clone(s.Ints), r(-99, -98), r(98, 99), r(5, 1))[:len(s.Ints)]
	s.Strs = append(slices.Clone(s.Strs), "spare", "room", "")[:len(s.Strs)]
	return s
}

func roomy(x api.Expr) api.Expr {
	x.Set = roomySet(x.Set)
	var subs []api.Expr
	for _, sub := range x.Sub {
		subs = append(subs, roomy(sub))
	}
	x.Sub = append(subs, atom(1, strs("spare")), not(and()))[:len(x.Sub)]
	return x
}

// wholeSet answers a copy of a set, whose lists go to the end of their room; so does whole.
func wholeSet(s api.Set) api.Set {
	s.Ints, s.Strs = slices.Clone(s.Ints[:cap(s.Ints)]), slices.Clone(s.Strs[:cap(s.Strs)])
	return s
}

func whole(x api.Expr) api.Expr {
	x.Set, x.Sub = wholeSet(x.Set), slices.Clone(x.Sub[:cap(x.Sub)])
	for i := range x.Sub {
		x.Sub[i] = whole(x.Sub[i])
	}
	return x
}

// spoilSet writes over all of a set's lists, their spare room too; spoil over those of an expression.
func spoilSet(s api.Set) {
	numbers, names := s.Ints[:cap(s.Ints)], s.Strs[:cap(s.Strs)]
	for i := range numbers {
		numbers[i] = r(-12345, 12345)
	}
	for i := range names {
		names[i] = "spoiled"
	}
}

func spoil(x api.Expr) {
	spoilSet(x.Set)
	subs := x.Sub[:cap(x.Sub)]
	for i := range subs {
		spoil(subs[i])
		subs[i] = api.Expr{Kind: 77, Attr: 77}
	}
}

// P7.1: what is handed in stays as it is, its spare room too.
func TestWhatIsHandedInStays(t *testing.T) {
	for _, c := range someSets() {
		s := roomySet(c.s)
		want := wholeSet(s)
		if text.Set(s) != c.text || !equalSets(wholeSet(s), want) {
			t.Fatalf("Set(%v): changed", c.s)
		}
	}
	for _, plain := range slices.Concat(greatSets(), wrongSets()) {
		s := roomySet(plain)
		want := wholeSet(s)
		if text.Set(s); !equalSets(wholeSet(s), want) {
			t.Fatalf("Set(%v): changed", plain)
		}
	}
	var list []api.Expr
	for _, c := range manyExprs() {
		list = append(list, c.x)
	}
	for _, plain := range append(list, wrongParts()...) {
		x := roomy(plain)
		want := whole(x)
		if text.Print(x); !equal(whole(x), want) {
			t.Fatalf("Print(%v): changed", plain)
		}
	}
}

// P7.1: an answer shares nothing with another one.
func TestAnswersAreNewMemory(t *testing.T) {
	for _, c := range manyExprs() {
		x, _ := text.Parse(c.text)
		want := whole(x)
		again, _ := text.Parse(c.text)
		spoil(again)
		if !equal(whole(x), want) {
			t.Fatalf("Parse(%q) shares memory with a later answer", c.text)
		}
	}
}

// parts answers an expression's parts, of its spare room too, each with lists in their whole room.
func parts(x api.Expr) []api.Expr {
	x.Set.Ints, x.Set.Strs, x.Sub = x.Set.Ints[:cap(x.Set.Ints)], x.Set.Strs[:cap(x.Set.Strs)], x.Sub[:cap(x.Sub)]
	out := []api.Expr{x}
	for _, sub := range x.Sub {
		out = append(out, parts(sub)...)
	}
	return out
}

// P7.1: no two lists of one answer share memory.
func TestListsOfAnAnswerAreApart(t *testing.T) {
	s := "a:[- 1..2 4..5 7 ~ 'a' 'b' 'c']"
	for _, whole := range []string{s, "!" + s, "&(" + s + " " + s + " " + s + ")", "|(!" + s + " &(" + s + " " + s + " &() " + s + " !" + s + ") &(" + s + ") " + s + ")"} {
		x, err := text.Parse(whole)
		if err != api.OK {
			t.Fatalf("Parse(%q): %d", whole, err)
		}
		numbers, names, subs := map[*api.Range]bool{}, map[*string]bool{}, map[*api.Expr]bool{}
		for _, part := range parts(x) {
			for i := range part.Set.Ints {
				if at := &part.Set.Ints[i]; numbers[at] {
					t.Fatalf("Parse(%q): two lists of ranges share memory", whole)
				} else {
					numbers[at] = true
				}
			}
			for i := range part.Set.Strs {
				if at := &part.Set.Strs[i]; names[at] {
					t.Fatalf("Parse(%q): two lists of strings share memory", whole)
				} else {
					names[at] = true
				}
			}
			for i := range part.Sub {
				if at := &part.Sub[i]; subs[at] {
					t.Fatalf("Parse(%q): two lists of expressions share memory", whole)
				} else {
					subs[at] = true
				}
			}
		}
	}
}
