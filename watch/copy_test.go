package watch_test

import (
	"testing"

	"covey/api"
)

// P16.1: a copy tells what its original tells; what is done to one of them is not seen in the other one, nor in a copy of the copy.
func TestCopy(t *testing.T) {
	for seed := range draw(100) {
		b := seed.watch(t)
		now := seed.below(50)
		for range 20 {
			c := b.apart()
			if c.watch == nil || c.watch == b.watch {
				t.Fatal("a copy is nil, or no other one")
			}
			d := c.apart()
			then := now
			for range 4 {
				then = c.step(t, &seed, someIDs(), then)
				b.holds(t)
			}
			b.at(t, now, then, then+9)
			now = b.step(t, &seed, someIDs(), now)
			c.at(t, now, then, then+9)
			d.at(t, now, then, then+9)
			d.step(t, &seed, someIDs(), now)
			b.at(t, now, then, then+9)
			c.at(t, now, then, then+9)
		}
	}
}

// P16.1: each thing that is done, to a copy alone, and to what it was made of alone, of watches that are new, of nobody again, of some who were never heard, or often.
func TestCopyEachThing(t *testing.T) {
	things := []func(b *both){
		func(*both) {},
		func(b *both) { b.look(t, 70) },
		func(b *both) { b.look(t, 70, first(1, 2)...) },
		func(b *both) { b.look(t, 71, first(2, 3)...) },
		func(b *both) { b.look(t, 70); b.look(t, 71, first(1, 2)...) },
		func(b *both) { b.heard(t, id(1, 1), 70, 75) },
		func(b *both) { b.heard(t, id(2, 1), 72, 72, 72, 80) },
		func(b *both) { b.heard(t, id(3, 1), 70) },
	}
	pasts := []func(b *both){
		func(*both) {},
		func(b *both) { b.look(t, 40) },
		func(b *both) { b.look(t, 40, first(1, 2)...) },
		func(b *both) { b.look(t, 40, first(1, 2)...); b.heard(t, id(1, 1), 41, 44, 52) },
		func(b *both) {
			b.look(t, 40, first(1, 2)...)
			b.heard(t, id(2, 1), 41, 42, 43, 44)
			b.look(t, 69, first(2)...)
		},
		func(b *both) { b.look(t, 40, first(1, 2, 3)...); b.look(t, 50) },
	}
	for _, past := range pasts {
		for window := 1; window <= 4; window++ {
			for _, do := range things {
				for _, other := range things {
					b := fresh(t, 1, 30, window)
					past(b)
					c := b.apart()
					for _, x := range []struct {
						of, not *both
						do      func(*both)
					}{{c, b, do}, {b, c, other}, {b, c, do}, {c, b, other}} {
						x.do(x.of)
						x.not.at(t, 70, 76, 80, 90, 101, 120)
						x.of.at(t, 70, 76, 80, 90, 101, 120)
					}
				}
			}
		}
	}
}

// P16.1: copies of one watch, each told other things from the same time on, in turn.
func TestCopiesInTurn(t *testing.T) {
	for window := 1; window <= 6; window++ {
		for before := range 10 {
			b := fresh(t, 1, 4000, window)
			b.look(t, 0, someIDs()...)
			for now := range before {
				b.heard(t, id(2, 1), 10*now)
			}
			copies := []*both{b}
			for range 4 {
				copies = append(copies, b.apart())
			}
			for turn := 1; turn < 9; turn++ {
				for i, c := range copies {
					c.heard(t, id(2, 1), 200+turn*(i+7))
				}
				for i, c := range copies {
					c.at(t, 200+turn*(i+8), 300, 400)
				}
			}
		}
	}
}

// P16.1: a copy has the bounds and the window of the original, also for those who are new in it.
func TestCopyOfNew(t *testing.T) {
	for _, c := range [][3]int{{1, 1, 1}, {2, 5, 3}, {mostTime, mostTime, mostTime}, {1, mostTime, 3}, {4, 4, 2}} {
		b := fresh(t, c[0], c[1], c[2])
		d := b.apart().apart()
		d.look(t, 7, first(5)...)
		d.lateFrom(t, id(5, 1), 8+c[1])
		wants(t, "Watched of the original", b.watch.Watched())
		b.look(t, 50, first(5, 6)...)
		b.lateFrom(t, id(6, 1), 51+c[1])
		d.heard(t, id(5, 1), 8, 10, 10, 13, 14, 21)
		d.at(t, 21, 22, 24, 26, 30, 90, 21+c[0], 22+c[0], 21+c[1], 22+c[1])
		b.at(t, 50+c[1], 51+c[1])
	}
}

// Watches know nothing of each other.
func TestWatchesApart(t *testing.T) {
	b, c := fresh(t, 1, 30, 3), fresh(t, 2, 50, 2)
	for n := range 20 {
		b.look(t, n*n, first(1, 2)...)
		b.heard(t, id(1, 1), n*n)
		c.at(t, n, 100+9*n)
		if n%3 == 0 {
			c.look(t, 100+7*n, first(2, 3)...)
			c.heard(t, id(2, 1), 100+7*n)
			b.at(t, n*n, n*n+40)
		}
	}
}

// mark is in no list.
var mark = id(-7, -7)

// roomy is a list in new memory, with room for three more behind it, in which marks stand.
func roomy(l []api.ID) []api.ID {
	m := append(append([]api.ID{}, l...), mark, mark, mark)
	return m[:len(l)]
}

// overwrite overwrites a list, and the room behind it.
func overwrite(l []api.ID) {
	l = l[:cap(l)]
	for i := range l {
		l[i] = mark
	}
}

// P16.1: the list that is looked at is not changed, and not kept; what is returned is new memory each time.
func TestNewMemory(t *testing.T) {
	for _, ids := range parts(first(1, 2, 5)) {
		for _, before := range parts(first(2, 5, 8)) {
			b := fresh(t, 1, 6, 2)
			b.look(t, 10, before...)
			l := roomy(ids)
			late := b.look(t, 17, l...)
			wants(t, "the list that was looked at", l[:len(ids)+3], roomy(ids)[:len(ids)+3]...)
			overwrite(late)
			wants(t, "the list that was looked at", l[:len(ids)+3], roomy(ids)[:len(ids)+3]...)
			overwrite(l)
			b.at(t, 17, 23, 24)
			again, watched := b.look(t, 24, ids...), b.watch.Watched()
			overwrite(b.look(t, 24, ids...))
			overwrite(b.watch.Watched())
			wants(t, "late, returned before", again, ids...)
			wants(t, "Watched, returned before", watched, ids...)
			overwrite(again)
			wants(t, "Watched, returned before", watched, ids...)
			overwrite(watched)
			b.at(t, 17, 23, 24)
			b.look(t, 24, ids...)
		}
	}
}
