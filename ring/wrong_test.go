package ring_test

import (
	"slices"
	"testing"

	"covey/api"
	"covey/ring"
)

// comesBack makes all calls; it is enough that they return, and leave their lists as they are.
func comesBack(t *testing.T, ids []api.ID, me api.ID, not []api.ID, ns ...int) {
	t.Helper()
	a, b := roomy(ids), roomy(not)
	ring.Order(a, me)
	ring.Behind(a, me)
	for _, n := range ns {
		ring.Watched(a, me, b, n)
	}
	if !untouched(a, ids) || !untouched(b, not) {
		t.Fatalf("for %v %v became %v, or %v became %v", me, ids, a, not, b)
	}
}

// shortLists are all lists of some IDs up to a length, in every order, with each ID any number of times.
func shortLists(some []api.ID, longest int) [][]api.ID {
	out := [][]api.ID{nil}
	for from := 0; len(out[from]) < longest; from++ {
		for _, x := range some {
			out = append(out, append(slices.Clone(out[from]), x))
		}
	}
	return out
}

// P14.1: without IDs there is nobody, whatever else is given; an absent list is like one of nothing.
func TestNobody(t *testing.T) {
	for _, none := range [][]api.ID{nil, {}} {
		for _, me := range append(beside(), someIDs()...) {
			for _, not := range [][]api.ID{nil, {}, first(1), someIDs()} {
				for _, n := range numbers(3) {
					if got := ring.Watched(none, me, not, n); len(got) > 0 {
						t.Errorf("Watched(%v, %v, %v, %d): %v", none, me, not, n, got)
					}
				}
			}
			if got := ring.Order(none, me); len(got) > 0 {
				t.Errorf("Order(%v, %v): %v", none, me, got)
			}
			if got, is := ring.Behind(none, me); is || got != (api.ID{}) {
				t.Errorf("Behind(%v, %v): %v, %t", none, me, got, is)
			}
		}
		for _, n := range numbers(5) {
			checkWatched(t, someIDs(), id(2, 1), none, n)
		}
	}
}

// P14.1: lists that do not increase, or hold an ID twice, come back.
func TestAnyOrder(t *testing.T) {
	l := shortLists(first(1, 2, 4), 4)
	for _, ids := range l {
		for _, not := range l {
			for _, me := range first(1, 2, 3, 4) {
				comesBack(t, ids, me, not, 0, 1, 2, 5)
			}
		}
	}
}

// P14.1: lists of IDs that are not valid come back, in any order.
func TestNotValid(t *testing.T) {
	d := draw(6)
	all := append(beside(), someIDs()...)
	list := func() []api.ID {
		l := make([]api.ID, d.below(30))
		for i := range l {
			l[i] = all[d.below(len(all))]
		}
		return l
	}
	for range 2000 {
		comesBack(t, list(), all[d.below(len(all))], list(), numbers(4)...)
	}
}

// P14.1: the same holds of lists that decrease, and of one ID alone, however often.
func TestTurnedRound(t *testing.T) {
	d := draw(7)
	for k := range 200 {
		ids := d.rise(2 + k)
		not := d.some(ids)
		me := ids[d.below(len(ids))]
		slices.Reverse(ids)
		comesBack(t, ids, me, not, numbers(4)...)
		slices.Reverse(not)
		comesBack(t, ids, me, not, numbers(4)...)
		comesBack(t, slices.Repeat(first(3), k), id(1+k%5, 1), slices.Repeat(first(3), k/2), numbers(4)...)
	}
}
