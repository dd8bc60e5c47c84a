package walk_test

import (
	"testing"

	"covey/api"
	"covey/walk"
)

// P17.1: without peers Next returns false, and the sequence is unchanged: without one, at each place of one under way, and at its end.
func TestNoPeers(t *testing.T) {
	for n := range 6 {
		for taken := range n + 1 {
			for _, none := range [][]api.ID{nil, {}, first(1, 2)[:0]} {
				b := fresh(t)
				for range taken {
					b.next(t, 3, many(n)...)
				}
				still, left := b.apart(), b.walk.Left()
				for _, draw := range draws() {
					if o := b.next(t, draw, none...); o.is || o.id != (api.ID{}) || o.left != left {
						t.Fatalf("without peers, after %d of %d: %v", taken, n, o)
					}
				}
				wants(t, "and then", b.round(t, 4, many(n)...), still.round(t, 4, many(n)...)...)
			}
		}
	}
}

// P17.2: of nil: false, 0, nil, again and again.
func TestNil(t *testing.T) {
	var w *walk.Walk
	for range 2 {
		for _, peers := range append(parts(first(1, 2, 3)), someIDs(), anyIDs()) {
			for _, draw := range draws() {
				l := roomy(peers)
				if x, is := w.Next(l, draw); is || x != (api.ID{}) {
					t.Errorf("Next(%v, %d) of nil: %v, %t", peers, draw, x, is)
				}
				if !untouched(l, peers) {
					t.Errorf("Next of nil: the list became %v", l)
				}
			}
		}
		if n := w.Left(); n != 0 {
			t.Errorf("Left of nil: %d", n)
		}
		if c := w.Copy(); c != nil {
			t.Errorf("Copy of nil: %v", c)
		}
	}
}

// A walk that New did not make, but that is not nil either, has an empty sequence, too.
func TestZero(t *testing.T) {
	for _, w := range []*walk.Walk{{}, (&walk.Walk{}).Copy(), new(walk.Walk)} {
		b := &both{walk: w}
		b.holds(t)
		b.next(t, 3)
		for _, draw := range draws() {
			b.next(t, draw, first(1, 2, 3)...)
			b.next(t, draw, first(3, 4)...)
		}
	}
}

// P17.1: IDs that are not valid are peers like others, in rows and in walks; they are held against each other by both of their numbers.
func TestNotValid(t *testing.T) {
	for c := range chance(100) {
		b := fresh(t)
		for range 20 {
			b.next(t, c.draw(), c.mixed(c.some(anyIDs()))...)
			b.next(t, c.draw(), anyIDs()...)
		}
	}
	for _, x := range anyIDs() {
		for _, y := range anyIDs() {
			b := fresh(t)
			b.next(t, 0, x)
			for _, draw := range draws() {
				b.next(t, draw, y, x)
				b.next(t, draw, y)
			}
		}
	}
}

// The zero ID is no absent peer: a walk of it alone has it.
func TestZeroID(t *testing.T) {
	b := fresh(t)
	for _, draw := range draws() {
		if o := b.next(t, draw, api.ID{}); !o.is || o.left != 0 {
			t.Errorf("Next of the zero ID: %v", o)
		}
	}
	wants(t, "Row", walk.Row([]api.ID{{}, id(1, 1)}, 0), id(1, 1), api.ID{})
}
