package walk_test

import (
	"math"
	"testing"

	"covey/api"
	"covey/walk"
)

// The chapter's examples.
func TestExamples(t *testing.T) {
	for _, draw := range draws() {
		wants(t, "Row of one peer", walk.Row(first(7), draw), id(7, 1))
		if got, is := walk.New().Next(nil, draw); is || got != (api.ID{}) {
			t.Errorf("Next without peers: %v, %t", got, is)
		}
		for _, before := range parts(first(1, 2)) {
			for calls := range 5 {
				b := fresh(t)
				for range calls {
					b.next(t, draw+7, before...)
				}
				met := map[api.ID]bool{}
				for range 3 {
					met[b.next(t, draw, first(1, 2)...).id] = true
				}
				if !met[id(1, 1)] || !met[id(2, 1)] {
					t.Errorf("of two peers within 3 calls: %v", met)
				}
			}
		}
	}
}

// P17.1: from a new walk on, by numbers: the rows of the draws, one after the other, and how many are left each time.
func TestNextByNumbers(t *testing.T) {
	w := walk.New()
	for i, c := range []struct {
		draw uint32
		addr int
		left int
	}{
		{0, 4, 4}, {9, 2, 3}, {9, 3, 2}, {9, 5, 1}, {9, 1, 0},
		{1, 4, 4}, {0, 3, 3}, {math.MaxUint32, 5, 2}, {7, 1, 1}, {8, 2, 0},
		{math.MaxUint32, 3, 4}, {0, 2, 3}, {0, 5, 2}, {0, 4, 1}, {0, 1, 0},
		{65536, 4, 4},
	} {
		got, is := w.Next(first(1, 2, 3, 4, 5), c.draw)
		if got != id(c.addr, 1) || !is || w.Left() != c.left {
			t.Fatalf("call %d: %v, %t, %d left, not %d, %d left", i+1, got, is, w.Left(), c.addr, c.left)
		}
	}
}

// P17.1, P17.2: one peer: it comes each time, for any draws, and nobody is left then.
func TestOnePeer(t *testing.T) {
	for _, x := range append(someIDs(), anyIDs()...) {
		b := fresh(t)
		for _, draw := range draws() {
			if o := b.next(t, draw, x); o.id != x || !o.is || o.left != 0 || b.walk.Left() != 0 {
				t.Errorf("Next of %v: %v", x, o)
			}
		}
	}
}

// P17.1: peers that are no longer given while they stand in the sequence are passed over, at each place: one, several, and all but one.
func TestGone(t *testing.T) {
	peers := first(1, 2, 3, 4, 5)
	row := first(4, 2, 3, 5, 1) // for the draw 0
	for taken := 1; taken <= len(row); taken++ {
		for _, gone := range parts(row[taken:]) {
			b := fresh(t)
			for range taken {
				b.next(t, 0, peers...)
			}
			stay := without(row, gone)
			for _, want := range without(row[taken:], gone) {
				if o := b.next(t, 1, stay...); o.id != want || o.made {
					t.Fatalf("of %v after %d, without %v: %v, not %v", row, taken, gone, o, want)
				}
			}
			wants(t, "the next row", b.round(t, 2, stay...), walk.Row(stay, 2)...)
		}
	}
}

// P17.2: those who are no peers any more are left as others are, until they are taken, together with the next peer.
func TestLeft(t *testing.T) {
	peers := first(1, 2, 3, 4, 5)
	b := fresh(t)
	b.next(t, 0, peers...) // 4 2 3 5 1
	for _, c := range []struct {
		peers []int
		addr  int
		left  int
	}{{nil, 0, 4}, {[]int{1, 3}, 3, 2}, {nil, 0, 2}, {[]int{1, 9}, 1, 0}, {nil, 0, 0}} {
		o := b.next(t, 3, first(c.peers...)...)
		if o.id.Addr != c.addr || o.left != c.left || b.walk.Left() != c.left {
			t.Fatalf("Next of %v: %v, not %d, %d left", c.peers, o, c.addr, c.left)
		}
	}
}

// P17.1: who is gone, and comes back ahead of its place, comes as if it had never been gone; once it was passed over it comes with the next sequence.
func TestBack(t *testing.T) {
	peers := first(1, 2, 3, 4, 5)
	b := fresh(t)
	b.next(t, 0, peers...) // 4 2 3 5 1
	b.next(t, 0, first(2, 4, 5)...)
	if o := b.next(t, 0, peers...); o.id != id(3, 1) {
		t.Fatalf("back in time: %v", o)
	}
	if o := b.next(t, 0, first(1, 2, 3, 4)...); o.id != id(1, 1) || o.left != 0 {
		t.Fatalf("passed over: %v", o)
	}
	wants(t, "the next row", b.round(t, 1, peers...), first(4, 3, 5, 1, 2)...)
}

// P17.1: new ones that come in between wait for the next sequence, wherever they stand in the list.
func TestNewOnes(t *testing.T) {
	for _, with := range [][]api.ID{first(1, 2, 3, 4, 5, 6), first(0, 1, 2, 3, 4, 5), {id(1, 1), id(1, 2), id(2, 1), id(3, 1), id(4, 1), id(5, 1)}} {
		for taken := 1; taken <= 5; taken++ {
			b := fresh(t)
			for range taken {
				b.next(t, 0, first(1, 2, 3, 4, 5)...)
			}
			for _, want := range first(4, 2, 3, 5, 1)[taken:] {
				if o := b.next(t, 8, with...); o.id != want {
					t.Fatalf("with new ones, after %d: %v, not %v", taken, o, want)
				}
			}
			wants(t, "the next row", b.round(t, 9, with...), walk.Row(with, 9)...)
		}
	}
}

// P17.1: a newer life is a new one, and its older one is gone.
func TestNewerLife(t *testing.T) {
	b := fresh(t)
	b.next(t, 0, first(1, 2, 3, 4, 5)...) // 4 2 3 5 1
	now := []api.ID{id(1, 1), id(2, 2), id(3, 1), id(4, 1), id(5, 1)}
	if o := b.next(t, 0, now...); o.id != id(3, 1) || o.left != 2 {
		t.Fatalf("with a newer life: %v", o)
	}
	b.next(t, 0, now...)
	b.next(t, 0, now...)
	wants(t, "the next row", b.round(t, 1, now...), walk.Row(now, 1)...)
}

// P17.1: when nobody of the sequence is a peer any more there is a new one, in the same call, for that call's draw and peers.
func TestNobodyIsAPeerAnyMore(t *testing.T) {
	for taken := range 6 {
		for _, others := range [][]api.ID{first(6), first(6, 7), {id(1, 2), id(2, 2), id(3, 3), id(4, 5)}, first(11, 12, 10, 9, 8, 7, 6), {{}}} {
			for _, draw := range draws() {
				b := fresh(t)
				for range taken {
					b.next(t, 0, first(1, 2, 3, 4, 5)...)
				}
				o := b.next(t, draw, others...)
				if row := walk.Row(others, draw); !o.made || o.id != row[0] || o.left != len(row)-1 {
					t.Fatalf("after %d, of others, for %d: %v, of %v", taken, draw, o, row)
				}
			}
		}
	}
	b := fresh(t)
	b.next(t, 0, first(1, 2, 3, 4, 5)...) // 4 2 3 5 1
	if o := b.next(t, 0, first(4)...); !o.made || o.id != id(4, 1) || o.left != 0 {
		t.Errorf("who was taken already is the only peer: %v", o)
	}
}

// P17.1: at the end of a sequence the next call makes a new one, and not the one before it.
func TestAtTheEnd(t *testing.T) {
	for n := 1; n <= 12; n++ {
		peers := many(n)
		b := fresh(t)
		for k, draw := range draws() {
			wants(t, "a row", b.round(t, draw, peers...), walk.Row(peers, draw)...)
			if b.walk.Left() != 0 {
				t.Fatalf("at the end of %d: %d left", k, b.walk.Left())
			}
		}
	}
}

// P17.1: all short runs, of all parts of some peers, each on a copy of the one before it.
func TestAllShortRuns(t *testing.T) {
	all := parts(first(1, 2, 3))
	var deeper func(b *both, left int)
	deeper = func(b *both, left int) {
		for i, peers := range all {
			next := b.apart()
			next.next(t, uint32(left*8+i), peers...)
			if left > 1 {
				deeper(next, left-1)
			}
		}
		b.holds(t)
	}
	deeper(fresh(t), 5)
}

// P17.1, P17.2: drawn runs, of lists in any order, held against the model in each of their steps.
func TestRuns(t *testing.T) {
	for c := range chance(300) {
		b := fresh(t)
		ids := append(anyIDs()[:3], someIDs()...)
		peers := c.some(ids)
		for range 40 {
			if c.below(5) == 0 {
				peers = c.mixed(c.some(ids))
			}
			b.next(t, c.draw(), peers...)
		}
	}
}

// P17.1, P17.2: walks know nothing of each other.
func TestWalksApart(t *testing.T) {
	a, b := fresh(t), fresh(t)
	for k := range uint32(60) {
		a.next(t, k, first(1, 2, 3, 4)...)
		b.holds(t)
		if k%3 == 0 {
			b.next(t, 90-k, first(2, 3, 5, 6, 7)...)
			a.holds(t)
		}
	}
}
