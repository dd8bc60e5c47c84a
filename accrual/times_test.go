package accrual_test

import (
	"math"
	"testing"
)

// below and above are times that count as 0, and as the greatest number.
var (
	below = []int{0, -1, -2, -mostTime, -mostNumber, math.MinInt + 1, math.MinInt}
	above = []int{mostNumber, mostNumber + 1, 2 * mostNumber, math.MaxInt - 1, math.MaxInt}
)

// A time below 0 counts as 0: in Begin, in Heard, first or later, and in Late.
func TestBelow(t *testing.T) {
	for _, now := range below {
		b := fresh(t, 2, 10, 2)
		b.begin(now)
		b.lateFrom(t, 11)
		b.heard(3)
		b.wants(t, 6)
		b.lateFrom(t, 10)

		b = fresh(t, 2, 10, 2)
		b.heard(now)
		b.lateFrom(t, 11)
		b.heard(4)
		b.wants(t, 8)
		b.lateFrom(t, 13)

		for _, again := range below {
			b = fresh(t, 2, 10, 2)
			b.begin(now)
			b.heard(again)
			b.wants(t, 2)
			b.lateFrom(t, 3)
			b.heard(3)
			b.wants(t, 3)
			b.lateFrom(t, 7)
			if b.detector.Late(again) {
				t.Errorf("late at %d", again)
			}
		}
	}
}

// A time above MaxNumber counts as that: in Begin, in Heard, first or later, and in Late.
func TestAbove(t *testing.T) {
	for _, now := range above {
		b := fresh(t, 1, 50, 2)
		b.begin(now)
		b.look(t)
		for _, later := range above {
			if b.detector.Late(later) {
				t.Errorf("begun at %d, late at %d", now, later)
			}
		}
		b.heard(now)
		b.wants(t, 1)

		for _, gap := range []int{0, 1, 2, 20} {
			b = fresh(t, 1, 50, 2)
			b.begin(mostNumber - gap)
			b.heard(now)
			b.wants(t, max(1, 2*gap))
			for _, later := range above {
				b.heard(later)
				b.wants(t, max(1, gap))
				if b.detector.Late(later) {
					t.Errorf("heard at %d, late at %d", later, later)
				}
				b.heard(mostNumber - gap)
				b.heard(mostNumber - gap)
				b.wants(t, 1)
				b = fresh(t, 1, 50, 2)
				b.begin(mostNumber - gap)
				b.heard(now)
			}
		}
	}
}

// Just below MaxNumber it is late at that, and beyond it, if that are more ticks than the limit, and not otherwise.
func TestLateAtEnd(t *testing.T) {
	for left := range 12 {
		for _, later := range above {
			b := fresh(t, 1, 6, 2)
			b.begin(mostNumber - left)
			b.look(t)
			if got := b.detector.Late(later); got != (left > 6) {
				t.Errorf("begun %d before the end, Late(%d): %t", left, later, got)
			}
			b = fresh(t, 1, 20, 1)
			b.heard(mostNumber-left-2, mostNumber-left)
			b.wants(t, 4)
			if got := b.detector.Late(later); got != (left > 4) {
				t.Errorf("heard %d before the end, Late(%d): %t", left, later, got)
			}
		}
	}
}

// From one end to the other one is a gap, too, whatever the window is; twice that is not too much.
func TestWholeGap(t *testing.T) {
	for _, from := range below {
		for _, to := range above {
			for _, window := range []int{1, 2, 3, mostTime} {
				b := fresh(t, 1, mostTime, window)
				b.begin(from)
				if !b.detector.Late(to) {
					t.Errorf("begun at %d, not late at %d", from, to)
				}
				b.heard(to)
				b.wants(t, mostTime)
				b.heard(from)
				b.heard(to)
				if window == 1 || window == 2 {
					b.wants(t, 1)
				} else {
					b.wants(t, mostTime)
				}
			}
		}
	}
}

// A time that is less than the last one counts as that one: its gap is 0, the last time stays, and it is not late there.
func TestGoingBack(t *testing.T) {
	for _, back := range append([]int{19, 20, 15, 10, 9, 1}, below...) {
		b := fresh(t, 1, 30, 3)
		b.begin(10)
		b.heard(20)
		b.wants(t, 20)
		if b.detector.Late(back) {
			t.Errorf("heard at 20, late at %d", back)
		}
		b.heard(back)
		b.wants(t, 10)
		b.lateFrom(t, 31)
		b.heard(24)
		b.wants(t, 10) // gaps of 10, 0 and 4
		b.lateFrom(t, 35)
		b.heard(back)
		b.wants(t, 3) // gaps of 0, 4 and 0
		b.lateFrom(t, 28)
		b.heard(back, back, back)
		b.wants(t, 1)
		b.lateFrom(t, 26)
	}
}

// A first time that began late counts: what is heard before that is heard then.
func TestHeardBeforeBegin(t *testing.T) {
	b := fresh(t, 2, 30, 2)
	b.begin(100)
	b.heard(40)
	b.wants(t, 2)
	b.lateFrom(t, 103)
	b.heard(105)
	b.wants(t, 5)
	b.lateFrom(t, 111)
}

// The same time again is a gap of 0; there it is not late, and one tick more than the lower bound later it is.
func TestSameTime(t *testing.T) {
	for _, min := range []int{1, 2, 5} {
		for _, now := range []int{0, 1, 77, 1 << 39} {
			b := fresh(t, min, 40, 2)
			b.heard(now)
			b.wants(t, 40)
			b.heard(now)
			b.wants(t, min)
			b.lateFrom(t, now+min+1)
			b.heard(now + 9)
			b.wants(t, 9)
			b.heard(now + 9)
			b.wants(t, 9)
			b.heard(now + 9)
			b.wants(t, min)
			b.lateFrom(t, now+9+min+1)
		}
	}
}

// P15.2: late by one tick, and not, at each time around the limit, and far beyond it.
func TestLateByOne(t *testing.T) {
	for min := 1; min <= 4; min++ {
		for max := min; max <= 12; max++ {
			for gap := range 8 {
				b := fresh(t, min, max, 1)
				b.heard(50, 50+gap)
				limit := 2 * gap
				if limit < min {
					limit = min
				}
				if limit > max {
					limit = max
				}
				for now := range 120 {
					if got := b.detector.Late(now); got != (now > 50+gap+limit) {
						t.Fatalf("bounds %d and %d, a gap of %d: Late(%d): %t", min, max, gap, now, got)
					}
				}
				b.look(t)
			}
		}
	}
}

// Any times at all, at the ends and beyond, in any order, held against the model.
func TestAnyTimes(t *testing.T) {
	for _, x := range ends() {
		for _, y := range ends() {
			for _, z := range ends() {
				for _, begins := range []bool{true, false} {
					b := fresh(t, 2, 90, 2)
					if begins {
						b.begin(x)
					} else {
						b.heard(x)
					}
					b.look(t)
					b.begin(y)
					b.heard(y)
					b.look(t)
					b.heard(z)
					b.look(t)
				}
			}
		}
	}
}
