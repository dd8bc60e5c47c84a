package ring_test

import (
	"slices"
	"testing"

	"covey/api"
	"covey/ring"
)

// mark is in no list.
var mark = id(-7, -7)

// roomy is a list in new memory, with room for three more behind it, in which marks stand.
func roomy(l []api.ID) []api.ID {
	return append(slices.Clone(l), mark, mark, mark)[:len(l)]
}

// untouched reports whether a list with such room is what it was, that room included.
func untouched(l, was []api.ID) bool {
	return slices.Equal(l[:len(l)+3], roomy(was)[:len(was)+3])
}

// overwrite overwrites a list, and the room behind it.
func overwrite(l []api.ID) {
	for i := range l[:cap(l)] {
		l[:cap(l)][i] = mark
	}
}

// call is a call that returns a list.
type call struct {
	name string
	of   func(ids, not []api.ID) []api.ID
}

// calls are calls for somebody, with several numbers.
func calls(me api.ID) []call {
	l := []call{{"Order", func(ids, _ []api.ID) []api.ID { return ring.Order(ids, me) }}}
	for _, n := range []int{-1, 0, 1, 2, 3, 100} {
		l = append(l, call{"Watched", func(ids, not []api.ID) []api.ID { return ring.Watched(ids, me, not, n) }})
	}
	return l
}

// lists are lists of which one is ids and the other one not: none, one, several, all.
func lists() [][]api.ID {
	return [][]api.ID{nil, {}, first(1), first(4), first(1, 2, 4, 7), first(2, 4), first(4, 7, 9), first(3, 8), someIDs()}
}

// mes are IDs ahead of all, of some lists, between others, and behind all.
func mes() []api.ID { return append(first(1, 2, 4, 7, 5), api.ID{}, id(13, 1)) }

// checkApart holds that a call leaves its lists as they are, and that nothing written into a result, or into its lists, is seen anywhere else.
func checkApart(t *testing.T, c call, me api.ID, ids, not []api.ID) {
	t.Helper()
	a, b := roomy(ids), roomy(not)
	got, again := c.of(a, b), c.of(a, b)
	want := slices.Clone(got)
	if !untouched(a, ids) || !untouched(b, not) {
		t.Fatalf("%s for %v: %v became %v, or %v became %v", c.name, me, ids, a, not, b)
	}
	overwrite(got)
	if !untouched(a, ids) || !untouched(b, not) {
		t.Fatalf("%s for %v of %v and %v: a result is in its lists", c.name, me, ids, not)
	}
	if !slices.Equal(again, want) || !slices.Equal(c.of(a, b), want) {
		t.Fatalf("%s for %v of %v and %v: a result is in another one", c.name, me, ids, not)
	}
	overwrite(a)
	overwrite(b)
	if !slices.Equal(again, want) {
		t.Fatalf("%s for %v of %v and %v: a result changes with its lists", c.name, me, ids, not)
	}
}

// P14.1: what is handed in stays as it is, and results are in new memory.
func TestNewMemory(t *testing.T) {
	for _, me := range mes() {
		for _, c := range calls(me) {
			for _, ids := range lists() {
				for _, not := range lists() {
					checkApart(t, c, me, ids, not)
				}
			}
		}
	}
}

// P14.1: both lists may be one, or a part of one.
func TestOneListTwice(t *testing.T) {
	for _, ids := range lists() {
		for _, me := range mes() {
			for _, c := range calls(me) {
				a := roomy(ids)
				for _, not := range [][]api.ID{a, a[:len(a)/2], a[len(a)/2:]} {
					want := c.of(slices.Clone(ids), slices.Clone(not))
					got := c.of(a, not)
					if !slices.Equal(got, want) {
						t.Fatalf("%s for %v of %v and %v: %v, not %v", c.name, me, ids, not, got, want)
					}
					overwrite(got)
					if !untouched(a, ids) {
						t.Fatalf("%s for %v of %v and %v: a result is in its lists", c.name, me, ids, not)
					}
				}
			}
		}
	}
}

// P14.1: Behind leaves its list as it is, and answers the same each time.
func TestBehindLeavesItsList(t *testing.T) {
	for _, ids := range lists() {
		a := roomy(ids)
		for _, of := range mes() {
			b, is := ring.Behind(a, of)
			if c, still := ring.Behind(a, of); c != b || still != is || !untouched(a, ids) {
				t.Fatalf("Behind(%v, %v): %v, %t, then %v, %t, of %v", ids, of, b, is, c, still, a)
			}
		}
	}
}
