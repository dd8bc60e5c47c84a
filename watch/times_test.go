package watch_test

import (
	"math"
	"testing"
)

// below and above are times that count as 0, and as the greatest number.
var (
	below = []int{0, -1, -2, -mostTime, -mostNumber, math.MinInt + 1, math.MinInt}
	above = []int{mostNumber, mostNumber + 1, 2 * mostNumber, math.MaxInt - 1, math.MaxInt}
)

// A time below 0 counts as 0: in a first look, in a later one, and where somebody is heard.
func TestBelow(t *testing.T) {
	for _, now := range below {
		b := fresh(t, 2, 10, 2)
		b.look(t, now, first(3)...)
		b.lateFrom(t, id(3, 1), 11)
		for _, again := range below {
			wants(t, "late below 0", b.look(t, again, first(3)...))
			b.lateFrom(t, id(3, 1), 11)
			c := b.apart()
			c.heard(t, id(3, 1), again)
			c.lateFrom(t, id(3, 1), 3)
			c.heard(t, id(3, 1), 3)
			c.lateFrom(t, id(3, 1), 7)
		}
	}
}

// A time above MaxNumber counts as that: in a first look, in a later one, and where somebody is heard.
func TestAbove(t *testing.T) {
	for _, now := range above {
		b := fresh(t, 1, 50, 1)
		b.look(t, now, first(3)...)
		for _, later := range above {
			wants(t, "late when it begins", b.look(t, later, first(3)...))
		}
		for left := range 12 {
			b = fresh(t, 1, 6, 2)
			b.look(t, mostNumber-left, first(3, 4)...)
			b.heard(t, id(4, 1), now)
			got := b.look(t, now, first(3, 4)...)
			if len(got) > 1 || (len(got) == 1) != (left > 6) {
				t.Fatalf("first looked at %d before the end, late at %d: %v", left, now, got)
			}
		}
	}
}

// A time before the last one of somebody counts, for that one, as that: it is not late there; heard there, it is heard at the last time.
func TestGoingBack(t *testing.T) {
	for _, back := range append([]int{19, 20, 15, 10, 9, 1}, below...) {
		b := fresh(t, 1, 30, 3)
		b.look(t, 10, first(3)...)
		b.heard(t, id(3, 1), 20)
		wants(t, "late before it was heard", b.look(t, back, first(3)...))
		b.lateFrom(t, id(3, 1), 41)
		b.heard(t, id(3, 1), back)
		b.lateFrom(t, id(3, 1), 31)
		b.heard(t, id(3, 1), 24)
		b.lateFrom(t, id(3, 1), 35)
	}
}

// For others the time is not later than it is now: one who is new begins now, though others were heard later, or not at all since.
func TestBackForOneAlone(t *testing.T) {
	b := fresh(t, 1, 8, 2)
	b.look(t, 100, first(1, 2)...)
	b.heard(t, id(1, 1), 150)
	wants(t, "late at 150", b.look(t, 150, first(1, 2)...), id(2, 1))
	wants(t, "late at 20", b.look(t, 20, first(1, 2, 3)...))
	b.lateFrom(t, id(3, 1), 29)
	b.lateFrom(t, id(2, 1), 109)
	b.heard(t, id(3, 1), 22)
	b.lateFrom(t, id(3, 1), 27)
	b.heard(t, id(2, 1), 22)
	b.lateFrom(t, id(2, 1), 102)
	b.look(t, 30, first(3)...)
	b.look(t, 30, first(1, 2, 3)...)
	b.lateFrom(t, id(1, 1), 39)
}

// One who was late is not at an earlier time, and is at the later one again: a look changes nothing for those who stay.
func TestLookingBack(t *testing.T) {
	b := fresh(t, 1, 8, 2)
	b.look(t, 10, first(1, 2)...)
	b.heard(t, id(2, 1), 13)
	for range 3 {
		wants(t, "late at 40", b.look(t, 40, first(1, 2)...), first(1, 2)...)
		wants(t, "late at 19", b.look(t, 19, first(1, 2)...), id(1, 1)) // 2 has a limit of 6
		wants(t, "late at 20", b.look(t, 20, first(1, 2)...), first(1, 2)...)
		wants(t, "late at 18", b.look(t, 18, first(1, 2)...))
	}
}

// Any times at all, at the ends and beyond, in any order, held against the model.
func TestAnyTimes(t *testing.T) {
	for _, x := range ends() {
		for _, y := range ends() {
			for _, z := range ends() {
				b := fresh(t, 2, 90, 2)
				b.look(t, x, first(1, 2)...)
				b.heard(t, id(1, 1), y)
				b.look(t, y, first(1, 2, 3)...)
				b.heard(t, id(3, 1), z)
				b.look(t, z, first(1, 3)...)
				b.at(t, ends()...)
				b.look(t, x, first(1, 2, 3)...)
				b.at(t, ends()...)
			}
		}
	}
}

// From one end to the other one is a gap, too.
func TestWholeGap(t *testing.T) {
	for _, from := range below {
		for _, to := range above {
			b := fresh(t, 1, mostTime, 2)
			b.look(t, from, id(9, 9), id(10, 1))
			wants(t, "late at the end", b.look(t, to, id(9, 9), id(10, 1)), id(9, 9), id(10, 1))
			b.heard(t, id(9, 9), to)
			wants(t, "late when heard", b.look(t, to, id(9, 9), id(10, 1)), id(10, 1))
		}
	}
}
