package ring_test

import (
	"math"
	"slices"
	"testing"

	"covey/api"
	"covey/ring"
)

// The chapter's examples.
func TestExamples(t *testing.T) {
	ids := first(1, 2, 4, 7)
	if got := ring.Order(ids, id(4, 1)); !slices.Equal(got, first(7, 1, 2)) {
		t.Errorf("Order after 4: %v", got)
	}
	if got := ring.Watched(ids, id(4, 1), first(7), 1); !slices.Equal(got, first(1, 7)) {
		t.Errorf("Watched by 4: %v", got)
	}
	if got, is := ring.Behind(ids, id(1, 1)); !is || got != id(7, 1) {
		t.Errorf("Behind 1: %v, %t", got, is)
	}
}

// P14.1: the ring after somebody: the first one, the last one, one in the middle, and one that is none of the IDs.
func TestOrder(t *testing.T) {
	for _, c := range []struct {
		ids  []api.ID
		me   api.ID
		want []api.ID
	}{
		{first(), id(1, 1), nil},
		{first(3), id(3, 1), nil},
		{first(3), id(2, 1), first(3)},
		{first(3), id(4, 1), first(3)},
		{first(3), id(3, 2), first(3)},
		{first(3, 5), id(3, 1), first(5)},
		{first(3, 5), id(5, 1), first(3)},
		{first(3, 5), id(4, 1), first(5, 3)},
		{first(1, 2, 4, 7), id(1, 1), first(2, 4, 7)},
		{first(1, 2, 4, 7), id(2, 1), first(4, 7, 1)},
		{first(1, 2, 4, 7), id(7, 1), first(1, 2, 4)},
		{first(1, 2, 4, 7), id(3, 1), first(4, 7, 1, 2)},
		{first(1, 2, 4, 7), id(8, 1), first(1, 2, 4, 7)},
		{first(1, 2, 4, 7), api.ID{}, first(1, 2, 4, 7)},
		{[]api.ID{id(2, 1), id(2, 2), id(2, 9)}, id(2, 2), []api.ID{id(2, 9), id(2, 1)}},
		{[]api.ID{id(2, 1), id(2, 2), id(2, 9)}, id(2, 5), []api.ID{id(2, 9), id(2, 1), id(2, 2)}},
		{[]api.ID{id(1, 9), id(2, 2), id(3, 1)}, id(2, 2), []api.ID{id(3, 1), id(1, 9)}},
		{[]api.ID{id(1, 9), id(2, 2), id(3, 1)}, id(2, 1), []api.ID{id(2, 2), id(3, 1), id(1, 9)}},
	} {
		if got := ring.Order(c.ids, c.me); !slices.Equal(got, c.want) {
			t.Errorf("Order(%v, %v): %v, not %v", c.ids, c.me, got, c.want)
		}
	}
}

// P14.1: whom somebody watches: those in not, and the first n others, in increasing order.
func TestWatched(t *testing.T) {
	five := first(1, 3, 5, 7, 9)
	for _, c := range []struct {
		ids  []api.ID
		me   api.ID
		not  []api.ID
		n    int
		want []api.ID
	}{
		{first(), id(1, 1), first(1, 2), 3, nil},
		{first(3), id(3, 1), first(3), 3, nil},
		{first(3), id(2, 1), nil, 1, first(3)},
		{first(3), id(2, 1), first(3), 0, first(3)},
		{first(3, 5), id(5, 1), nil, 1, first(3)},
		{first(3, 5), id(5, 1), nil, 0, nil},
		{five, id(3, 1), nil, 1, first(5)},
		{five, id(3, 1), nil, 2, first(5, 7)},
		{five, id(9, 1), nil, 2, first(1, 3)},
		{five, id(7, 1), nil, 3, first(1, 3, 9)},
		{five, id(6, 1), nil, 3, first(1, 7, 9)},
		{five, id(1, 1), nil, 4, first(3, 5, 7, 9)},
		{five, id(1, 1), nil, 5, first(3, 5, 7, 9)},
		{five, id(4, 1), nil, 5, five},
		{five, id(1, 1), nil, math.MaxInt, first(3, 5, 7, 9)},
		{five, id(1, 1), nil, -1, nil},
		{five, id(1, 1), nil, math.MinInt, nil},
		{five, id(3, 1), first(5), 1, first(5, 7)},
		{five, id(3, 1), first(1), 1, first(1, 5)},
		{five, id(3, 1), first(5, 7, 9), 1, first(1, 5, 7, 9)},
		{five, id(3, 1), first(5, 9), 0, first(5, 9)},
		{five, id(3, 1), first(5, 9), -5, first(5, 9)},
		{five, id(3, 1), first(5, 9), math.MinInt, first(5, 9)},
		{five, id(3, 1), first(5, 9), math.MaxInt, first(1, 5, 7, 9)},
		{five, id(3, 1), five, 1, first(1, 5, 7, 9)},
		{five, id(3, 1), first(3), 1, first(5)},
		{five, id(3, 1), first(3), 0, nil},
		{five, id(3, 1), first(2, 4, 6, 12), 2, first(5, 7)},
		{five, id(3, 1), []api.ID{id(5, 2), id(7, 2)}, 1, first(5)},
		{five, id(3, 2), first(3), 1, first(3, 5)},
		{five, id(3, 2), nil, 5, five},
	} {
		if got := ring.Watched(c.ids, c.me, c.not, c.n); !slices.Equal(got, c.want) {
			t.Errorf("Watched(%v, %v, %v, %d): %v, not %v", c.ids, c.me, c.not, c.n, got, c.want)
		}
	}
}

// P14.1: the predecessor of somebody; for the first one it is found by turning round, and one that is alone has none.
func TestBehind(t *testing.T) {
	for _, c := range []struct {
		ids  []api.ID
		of   api.ID
		want api.ID
		is   bool
	}{
		{first(), id(1, 1), api.ID{}, false},
		{first(3), id(3, 1), api.ID{}, false},
		{first(3), id(4, 1), id(3, 1), true},
		{first(3), id(2, 1), id(3, 1), true},
		{first(3), id(3, 2), id(3, 1), true},
		{first(3, 5), id(5, 1), id(3, 1), true},
		{first(3, 5), id(3, 1), id(5, 1), true},
		{first(3, 5), id(4, 1), id(3, 1), true},
		{first(1, 2, 4, 7), id(1, 1), id(7, 1), true},
		{first(1, 2, 4, 7), id(2, 1), id(1, 1), true},
		{first(1, 2, 4, 7), id(4, 1), id(2, 1), true},
		{first(1, 2, 4, 7), id(7, 1), id(4, 1), true},
		{first(1, 2, 4, 7), id(5, 1), id(4, 1), true},
		{first(1, 2, 4, 7), id(9, 1), id(7, 1), true},
		{first(1, 2, 4, 7), api.ID{}, id(7, 1), true},
		{[]api.ID{id(2, 1), id(2, 2), id(2, 9)}, id(2, 9), id(2, 2), true},
		{[]api.ID{id(2, 1), id(2, 2), id(2, 9)}, id(2, 5), id(2, 2), true},
		{[]api.ID{id(2, 1), id(2, 2), id(2, 9)}, id(2, 1), id(2, 9), true},
		{[]api.ID{id(1, 9), id(2, 2), id(3, 1)}, id(2, 1), id(1, 9), true},
	} {
		if got, is := ring.Behind(c.ids, c.of); got != c.want || is != c.is {
			t.Errorf("Behind(%v, %v): %v, %t, not %v, %t", c.ids, c.of, got, is, c.want, c.is)
		}
	}
}

// P14.1: all parts of some IDs, for each of these and for others beside them, held against the model.
func TestAllParts(t *testing.T) {
	some := someIDs()
	for _, ids := range parts(some) {
		for _, me := range append(beside(), some...) {
			checkRing(t, ids, me)
			for _, not := range parts(some) {
				for _, n := range numbers(len(ids)) {
					checkWatched(t, ids, me, not, n)
				}
			}
		}
	}
}

// P14.1: not may hold IDs that are none of the IDs, and me.
func TestNotOfOthers(t *testing.T) {
	some := someIDs()
	d := draw(14)
	for _, ids := range parts(some) {
		for _, me := range append(beside(), some...) {
			for range 8 {
				not := sorted(append(d.some(beside()), d.some(some)...)...)
				for _, n := range numbers(len(ids)) {
					checkWatched(t, ids, me, not, n)
				}
			}
		}
	}
}

// P14.1: the IDs need not be valid: it is enough that they increase.
func TestAnyNumbers(t *testing.T) {
	all := sorted(beside()...)
	d := draw(15)
	for range 300 {
		ids := d.some(all)
		for _, me := range append(someIDs(), all...) {
			checkRing(t, ids, me)
			checkWatched(t, ids, me, d.some(all), d.below(len(all)))
		}
	}
}

// P14.1: drawn lists, longer ones among them.
func TestDrawn(t *testing.T) {
	d := draw(16)
	for k := range 300 {
		ids := d.rise(k / 4)
		me := id(1+d.below(api.MaxAddr), 1+d.below(k+1))
		if k%2 == 0 && len(ids) > 0 {
			me = ids[d.below(len(ids))]
		}
		checkRing(t, ids, me)
		for n := range 20 {
			not := d.some(ids)
			if n%2 == 0 {
				not = d.some(not)
			}
			checkWatched(t, ids, me, not, n*len(ids)/16)
		}
	}
}
