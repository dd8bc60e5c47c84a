package accrual_test

import (
	"testing"

	"covey/accrual"
	"covey/api"
)

// change does something to both, and returns at which time it was heard last.
func (b *both) change(d *draw, now int) int {
	switch d.below(6) {
	case 0:
		b.begin(now + d.below(9))
	case 1:
		b.heard(now + d.gap())
	default:
		now += d.below(30)
		b.heard(now)
	}
	return now
}

// P15.7, P15.2: a copy tells what the original tells; what is done to one of them is not seen in the other one, nor in a copy of the copy.
func TestCopy(t *testing.T) {
	for seed := range draw(60) {
		b := fresh(t, 1, 300, int(seed)%8+1)
		now := 0
		for range 30 {
			c := b.apart()
			if c.detector == nil || c.detector == b.detector {
				t.Fatal("a copy is nil, or no other one")
			}
			c.look(t)
			for then := range 4 {
				c.change(&seed, now+100*then)
				b.look(t)
				c.look(t)
			}
			d := c.apart()
			now = b.change(&seed, now)
			c.change(&seed, now+500)
			b.look(t)
			c.look(t)
			d.look(t)
			d.change(&seed, now+600)
			b.look(t)
			c.look(t)
			d.look(t)
		}
	}
}

// P15.7: each thing that is done, to a copy alone, and to what it was made of alone, of detectors that are new, began, were heard first, have fewer gaps than their window, as many, or had more.
func TestCopyEachThing(t *testing.T) {
	things := []func(b *both){
		func(*both) {},
		func(b *both) { b.begin(3) },
		func(b *both) { b.heard(70) },
		func(b *both) { b.heard(2) },
		func(b *both) { b.heard(71, 75, 80) },
		func(b *both) { b.heard(72, 72, 72, 99, 99, 120, 127) },
		func(b *both) { b.begin(9); b.heard(mostNumber) },
	}
	pasts := [][]int{nil, {40}, {40, 41}, {40, 41, 44}, {40, 41, 44, 52}, {40, 41, 44, 52, 60}, {40, 41, 44, 52, 60, 61, 62, 64}}
	for _, past := range pasts {
		for _, begins := range []bool{true, false} {
			for window := 1; window <= 5; window++ {
				for _, do := range things {
					for _, other := range things {
						b := fresh(t, 1, 50, window)
						if begins {
							b.begin(38)
						}
						b.heard(past...)
						c := b.apart()
						do(c)
						b.look(t)
						other(b)
						c.look(t)
						b.look(t)
						do(b)
						c.look(t)
						other(c)
						b.look(t)
						c.look(t)
					}
				}
			}
		}
	}
}

// P15.7: copies of one detector, each heard in its own way from the same time on, in turn.
func TestCopiesInTurn(t *testing.T) {
	for window := 1; window <= 9; window++ {
		for before := range 12 {
			b := fresh(t, 1, 4000, window)
			for now := range before {
				b.heard(10 * now)
			}
			copies := []*both{b}
			for range 5 {
				copies = append(copies, b.apart())
			}
			for turn := 1; turn < 15; turn++ {
				for i, c := range copies {
					c.heard(200 + turn*(i+7))
				}
				for _, c := range copies {
					c.look(t)
				}
			}
		}
	}
}

// P15.7: the greatest window is copied whole.
func TestCopyGreatestWindow(t *testing.T) {
	b := fresh(t, 1, mostTime, mostTime)
	for n := range mostTime + 1 {
		b.detector.Heard(5 * n)
	}
	c := b.detector.Copy()
	c.Heard(5*mostTime + 4096)
	if b.detector.Limit() != 10 || c.Limit() != 12 {
		t.Errorf("Limit: %d, of the copy %d", b.detector.Limit(), c.Limit())
	}
	for range mostTime {
		b.detector.Heard(0)
	}
	if b.detector.Limit() != 1 || c.Limit() != 12 || b.detector.Copy().Limit() != 1 {
		t.Errorf("Limit: %d, of the copy %d", b.detector.Limit(), c.Limit())
	}
}

// A copy has the bounds and the window of the original, and whether there is a last time.
func TestCopyOfNew(t *testing.T) {
	for _, c := range [][3]int{{1, 1, 1}, {3, 10, 2}, {mostTime, mostTime, mostTime}, {1, mostTime, 3}} {
		b := fresh(t, c[0], c[1], c[2])
		d := b.apart()
		d.wants(t, c[1])
		d.begin(7)
		d.lateFrom(t, 8+c[1])
		b.wants(t, c[1])
		if b.detector.Late(mostNumber) {
			t.Errorf("New(%v), late by its copy", c)
		}
		d.heard(8, 10, 10, 13, 14, 21)
		d.look(t)
		b.begin(50)
		b.lateFrom(t, 51+c[1])
		d.look(t)
	}
}

// Detectors know nothing of each other.
func TestDetectorsApart(t *testing.T) {
	b, c := fresh(t, 1, 90, 3), fresh(t, 2, 50, 2)
	for n := range 20 {
		b.heard(n * n)
		c.look(t)
		if n%3 == 0 {
			c.heard(100 + 7*n)
			b.look(t)
		}
	}
	if d, e := accrual.New(1, 90, 3); e != api.OK || d.Limit() != 90 || d.Late(1000) {
		t.Errorf("a new one has the limit %d", d.Limit())
	}
}
