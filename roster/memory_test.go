package roster_test

import (
	"slices"
	"testing"

	"covey/api"
	"covey/roster"
)

// What no list holds.
var markMember, markID = member(-7, -7, 77, -7), id(-7, -7)

// spared returns what is known in new memory, with spare room behind both lists.
func spared(k known) known {
	m := append(slices.Clone(k.m), markMember, markMember, markMember)
	f := append(slices.Clone(k.f), markID, markID, markID)
	return known{m[:len(k.m)], f[:len(k.f)]}
}

// untouched reports whether lists with spare room are what they were, that room included.
func untouched(k, was known) bool {
	m, f := k.m[:len(k.m)+3], k.f[:len(k.f)+3]
	for i := range 3 {
		if m[len(k.m)+i] != markMember || f[len(k.f)+i] != markID {
			return false
		}
	}
	return equal(k, was)
}

// What is handed in stays as it is, its spare room included, also where both lists are one.
func TestListsAreLeft(t *testing.T) {
	for _, a := range append(validOnes(), anyOnes()...) {
		for _, b := range anyOnes()[:25] {
			x, y := spared(a), spared(b)
			checkTwo(t, x, y)
			checkTwo(t, y, x)
			checkTwo(t, x, x)
			checkTwo(t, x, known{x.m[len(x.m)/2:], x.f[len(x.f)/2:]})
			checkOne(t, x, id(2, 1), member(2, 2, api.Up, 3))
			checkOne(t, x, id(1, 2), member(1, 1, api.Removed, 3))
			if !untouched(x, a) || !untouched(y, b) {
				t.Fatalf("%v became %v, or %v became %v", a, x, b, y)
			}
		}
	}
}

// fill overwrites both lists, and the room behind them.
func fill(k known) {
	for i := range k.m[:cap(k.m)] {
		k.m[:cap(k.m)][i] = markMember
	}
	for i := range k.f[:cap(k.f)] {
		k.f[:cap(k.f)][i] = markID
	}
}

// Each result is in memory of its own: neither an argument nor another result changes with it.
func TestResultsAreNew(t *testing.T) {
	operations := []func(a, b known) known{
		join,
		func(a, b known) known { return join(b, a) },
		func(a, b known) known { return set(a, member(2, 2, api.Up, 3)) },
		func(a, b known) known { return set(a, api.Member{}) },
	}
	for k, of := range operations {
		for _, a := range append(validOnes(), anyOnes()...) {
			for _, b := range []known{{}, rise(7), a} {
				x, y := spared(a), spared(b)
				got, again := of(x, y), of(x, y)
				want := deep(got)
				fill(got)
				if !equal(x, a) || !equal(y, b) || !equal(again, want) {
					t.Fatalf("operation %d of %v and %v shares memory with its result", k, a, b)
				}
				fill(x)
				fill(y)
				of(rise(9), rise(12))
				if !equal(again, want) {
					t.Fatalf("operation %d of %v and %v: its result changes later", k, a, b)
				}
			}
		}
	}
}

// The same is answered however often, and in whatever order, it is asked: nothing is kept.
func TestNothingIsKept(t *testing.T) {
	all := append(validOnes(), anyOnes()...)
	for _, a := range all {
		for _, b := range all[:40] {
			first := join(a, b)
			next, gone := roster.Next(a.m), roster.Gone(a.f, id(2, 1))
			set(b, member(2, 1<<20, api.Removed, 1))
			checkSame(t, "Join once more", join(a, b), first, a, b)
			if roster.Next(a.m) != next || roster.Gone(a.f, id(2, 1)) != gone {
				t.Fatalf("Next or Gone of %v: other answers later", a)
			}
		}
	}
}
