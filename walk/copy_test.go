package walk_test

import (
	"slices"
	"testing"

	"covey/api"
	"covey/walk"
)

// P17.2: a copy proceeds as its original does.
func TestCopy(t *testing.T) {
	for n := range 8 {
		for taken := range 2*n + 1 {
			b := fresh(t)
			for k := range taken {
				b.next(t, uint32(k), many(n)...)
			}
			c := b.apart()
			if c.walk == nil || c.walk == b.walk || c.walk.Left() != b.walk.Left() {
				t.Fatalf("a copy of a walk with %d left: %v", b.walk.Left(), c.walk)
			}
			wants(t, "of a copy", c.round(t, 77, many(n)...), b.round(t, 77, many(n)...)...)
		}
	}
}

// P17.2: a copy goes its own way, and so does its original; what one of them does is not seen in the other one, nor in a copy of the copy.
func TestCopiesApart(t *testing.T) {
	for c := range chance(200) {
		b := c.under(t, someIDs())
		for range 10 {
			d := b.apart()
			e := d.apart()
			for range 9 {
				d.next(t, c.draw(), c.some(someIDs())...)
				b.holds(t)
				e.holds(t)
			}
			b.next(t, c.draw(), someIDs()...)
			d.holds(t)
			e.holds(t)
			d.next(t, c.draw(), someIDs()...)
			e.next(t, c.draw(), someIDs()...)
			b.next(t, c.draw(), c.some(someIDs())...)
		}
	}
}

// P17.2: copies of one walk, in turn, each to the end of its sequence and beyond, from each place in it.
func TestCopiesInTurn(t *testing.T) {
	for taken := range 8 {
		b := fresh(t)
		for range taken {
			b.next(t, 5, many(7)...)
		}
		copies := []*both{b, b.apart(), b.apart(), b.apart().apart()}
		for k := range 20 {
			for i, c := range copies {
				c.next(t, uint32(100*i+k), many(7)[i%2:]...)
			}
			for _, c := range copies {
				c.holds(t)
			}
		}
	}
}

// mark is in no list.
var mark = id(-7, -7)

// roomy is a list in new memory, with room for three more behind it, in which marks stand.
func roomy(l []api.ID) []api.ID {
	return append(slices.Clone(l), mark, mark, mark)[:len(l)]
}

// untouched reports whether a list with such room is what it was, that room included.
func untouched(l, was []api.ID) bool {
	return slices.Equal(l[:len(l)+3], roomy(was)[:len(was)+3])
}

// overwrite overwrites a list, and the room behind it.
func overwrite(l []api.ID) {
	l = l[:cap(l)]
	for i := range l {
		l[i] = mark
	}
}

// lists are lists of nobody, of one, of more; in order, in reverse, and with some twice.
func lists() [][]api.ID {
	return [][]api.ID{nil, first(1), first(1, 2), first(2, 1), first(1, 1), first(1, 2, 3, 4, 5), first(5, 4, 3, 2, 1), first(3, 1, 3, 2, 2, 1), someIDs(), anyIDs(), many(40)}
}

// P17.1: the list that Row is given stays as it is, and a row is new memory: neither of them, nor another row, changes with what is written over one of them.
func TestRowNewMemory(t *testing.T) {
	for _, peers := range lists() {
		for _, draw := range draws() {
			l, want := roomy(peers), rowOf(peers, draw)
			row, again := walk.Row(l, draw), walk.Row(l, draw)
			if !untouched(l, peers) {
				t.Fatalf("Row(%v, %d): the list became %v", peers, draw, l)
			}
			overwrite(row)
			if !untouched(l, peers) {
				t.Fatalf("Row(%v, %d): the row is in its list", peers, draw)
			}
			wants(t, "another row", again, want...)
			overwrite(l)
			wants(t, "a row whose list is written over", again, want...)
		}
	}
}

// P17.1: the list that Next is given stays as it is, and is not kept: the walk goes on as it would when that is written over, so that also a sequence made of it stays.
func TestNextNewMemory(t *testing.T) {
	for _, peers := range lists() {
		for _, draw := range draws() {
			b := fresh(t)
			for range 2*len(peers) + 1 {
				l := roomy(peers)
				b.all = append(b.all, asked{peers, draw})
				x, is := b.walk.Next(l, draw)
				if !untouched(l, peers) {
					t.Fatalf("Next(%v, %d): the list became %v", peers, draw, l)
				}
				overwrite(l)
				if want := outcomeOf(b.all); x != want.id || is != want.is || b.walk.Left() != want.left {
					t.Fatalf("Next(%v, %d), written over: %v, %t, %d left, not %v", peers, draw, x, is, b.walk.Left(), want)
				}
			}
		}
	}
}

// P17.1, P17.2: what is written over a row is not seen in a walk that makes the same one, nor in its copy.
func TestRowIsNotKept(t *testing.T) {
	for _, draw := range draws() {
		b := fresh(t)
		b.next(t, draw, many(6)...)
		c := b.apart()
		overwrite(walk.Row(many(6), draw))
		for range 5 {
			b.next(t, draw, many(6)...)
			c.next(t, draw, many(6)...)
		}
	}
}
