package accrual_test

import (
	"slices"
	"testing"

	"covey/accrual"
	"covey/api"
)

// The chapter's examples.
func TestExamples(t *testing.T) {
	d, e := accrual.New(3, 10, 2)
	if e != api.OK {
		t.Fatalf("New: error %d", int(e))
	}
	d.Begin(5)
	if d.Late(15) || !d.Late(16) {
		t.Errorf("begun at 5, Late(15): %t, Late(16): %t", d.Late(15), d.Late(16))
	}
	d, _ = accrual.New(3, 10, 2)
	d.Begin(5)
	d.Heard(6)
	d.Heard(8)
	d.Heard(11)
	if d.Limit() != 5 {
		t.Errorf("heard at 6, 8 and 11, Limit: %d", d.Limit())
	}
	if d.Late(16) || !d.Late(17) {
		t.Errorf("heard at 6, 8 and 11, Late(16): %t, Late(17): %t", d.Late(16), d.Late(17))
	}
}

// P15.1, P15.2: a new detector has neither a last time nor gaps: its limit is the upper bound, and it is never late.
func TestNew(t *testing.T) {
	for _, c := range [][3]int{
		{1, 1, 1}, {1, 2, 1}, {2, 2, 1}, {3, 10, 2}, {1, mostTime, 1}, {mostTime, mostTime, 1}, {mostTime - 1, mostTime, 1},
		{1, 1, mostTime}, {1, mostTime, mostTime}, {mostTime, mostTime, mostTime}, {1, 1, mostTime - 1}, {7, 7, 7}, {5, 6, 4},
	} {
		b := fresh(t, c[0], c[1], c[2])
		b.wants(t, c[1])
		for _, now := range append(ends(), c[0], c[1], c[1]+1, c[1]+2, 2*mostTime, 1<<30) {
			if b.detector.Late(now) {
				t.Errorf("New(%v) is late at %d", c, now)
			}
		}
	}
}

// P15.1: Begin makes a time the last one, from which on the upper bound counts.
func TestBegin(t *testing.T) {
	for _, now := range []int{0, 1, 5, 4096, 1 << 32, mostNumber - 9} {
		for max := 1; max < 9; max++ {
			b := fresh(t, 1, max, 3)
			b.begin(now)
			b.wants(t, max)
			b.lateFrom(t, now+max+1)
		}
	}
}

// P15.1: Begin does nothing where there is a last time already, whether it began or was heard, and whether that was before or after.
func TestBeginAgain(t *testing.T) {
	for _, again := range append(ends(), 19, 20, 21, 24, 25, 26, 500) {
		b := fresh(t, 2, 9, 2)
		b.begin(20)
		b.begin(again)
		b.wants(t, 9)
		b.lateFrom(t, 30)
		b.heard(23)
		b.wants(t, 6)
		b.begin(again)
		b.wants(t, 6)
		b.lateFrom(t, 30)
		b.heard(25)
		b.wants(t, 5)
		b.lateFrom(t, 31)

		b = fresh(t, 2, 9, 2)
		b.heard(20)
		b.begin(again)
		b.wants(t, 9)
		b.lateFrom(t, 30)
		b.heard(22)
		b.begin(again)
		b.wants(t, 4)
		b.lateFrom(t, 27)
	}
}

// P15.1: Begin at 0 begins, too, so that another one does nothing.
func TestBeginAtNone(t *testing.T) {
	for _, now := range []int{0, -1, -50} {
		b := fresh(t, 1, 9, 2)
		b.begin(now)
		b.begin(100)
		b.lateFrom(t, 10)
		b.heard(2)
		b.wants(t, 4)
		b.lateFrom(t, 7)
	}
}

// P15.1: Heard without Begin makes a time the last one, and records no gap; from then on gaps are recorded.
func TestHeardFirst(t *testing.T) {
	for _, now := range []int{0, 1, 2, 40, 1 << 33} {
		b := fresh(t, 2, 50, 3)
		b.heard(now)
		b.wants(t, 50)
		b.lateFrom(t, now+51)
		b.heard(now + 3)
		b.wants(t, 6)
		b.lateFrom(t, now+10)
	}
}

// P15.1, P15.2: the limit by the gaps: with a window of one, two, three and more, with fewer gaps, as many, and more; of the same and of other ones; with a mean that is whole, and one that is rounded up.
func TestLimit(t *testing.T) {
	for _, c := range []struct {
		window int
		gaps   []int
		want   int
	}{
		{1, nil, 100},
		{1, []int{3}, 6},
		{1, []int{3, 5}, 10},
		{1, []int{3, 5, 4}, 8},
		{1, []int{50, 1}, 2},
		{1, []int{1, 50}, 100},
		{2, []int{3}, 6},
		{2, []int{3, 3}, 6},
		{2, []int{2, 3}, 5},
		{2, []int{1, 2, 3}, 5},
		{2, []int{3, 2, 1}, 3},
		{2, []int{40, 40, 1, 1}, 2},
		{3, []int{4}, 8},
		{3, []int{4, 5}, 9},
		{3, []int{4, 5, 6}, 10},
		{3, []int{1, 1, 2}, 3},
		{3, []int{1, 2, 2}, 4},
		{3, []int{2, 2, 2}, 4},
		{3, []int{0, 0, 4}, 3},
		{3, []int{0, 0, 5}, 4},
		{3, []int{0, 0, 6}, 4},
		{3, []int{9, 1, 1, 2}, 3},
		{3, []int{9, 8, 1, 2, 2}, 4},
		{3, []int{1, 1, 2, 9}, 8},
		{3, []int{7, 6, 5, 4, 3, 2, 1}, 4},
		{4, []int{1, 1, 1}, 2},
		{4, []int{1, 1, 1, 2}, 3},
		{4, []int{5, 1, 1, 1, 2}, 3},
		{5, []int{1, 1, 1, 1, 2}, 3},
		{5, []int{2, 2, 2, 2, 1}, 4},
		{5, []int{9, 2, 2, 2, 2, 2}, 4},
		{7, []int{1, 2, 3, 4, 5, 6, 7}, 8},
		{7, []int{9, 1, 2, 3, 4, 5, 6, 7}, 8},
		{7, []int{1, 2, 3, 4, 5, 6}, 7},
		{7, []int{1, 2, 3, 4, 5, 7}, 8},
		{mostTime, []int{1, 2, 3, 4, 5, 6, 7, 8, 9, 10}, 11},
		{mostTime, []int{1, 1, 1, 1, 1, 1, 1, 1, 1, 2}, 3},
	} {
		for _, begins := range []bool{true, false} {
			b := fresh(t, 1, 100, c.window)
			now := 1000
			if begins {
				b.begin(now)
			} else {
				b.heard(now)
			}
			for _, gap := range c.gaps {
				now += gap
				b.heard(now)
				b.look(t)
			}
			b.wants(t, c.want)
			b.lateFrom(t, now+c.want+1)
		}
	}
}

// P15.2: a limit within the bounds, at each of them, and beyond each, with bounds that are one, and such that are not.
func TestLimitInBounds(t *testing.T) {
	for _, c := range []struct{ min, max, gap, want int }{
		{6, 12, 2, 6}, {6, 12, 0, 6}, {6, 12, 3, 6}, {6, 12, 4, 8}, {6, 12, 5, 10}, {6, 12, 6, 12}, {6, 12, 7, 12}, {6, 12, 5000, 12},
		{5, 13, 2, 5}, {5, 13, 3, 6}, {5, 13, 6, 12}, {5, 13, 7, 13},
		{6, 6, 0, 6}, {6, 6, 2, 6}, {6, 6, 3, 6}, {6, 6, 4, 6}, {6, 6, 1 << 39, 6},
		{1, 1, 0, 1}, {1, 1, 1, 1}, {1, 1, 2, 1}, {1, 2, 0, 1}, {1, 2, 1, 2}, {1, 2, 2, 2},
		{1, mostTime, 0, 1}, {1, mostTime, 2047, 4094}, {1, mostTime, 2048, mostTime}, {1, mostTime, 2049, mostTime}, {1, mostTime, 1 << 39, mostTime},
		{mostTime, mostTime, 0, mostTime}, {mostTime, mostTime, 1, mostTime}, {mostTime, mostTime, 2048, mostTime}, {mostTime, mostTime, 1 << 39, mostTime},
		{mostTime - 1, mostTime, 2047, mostTime - 1}, {mostTime - 1, mostTime, 2048, mostTime},
	} {
		for _, window := range []int{1, 2, 3, mostTime} {
			b := fresh(t, c.min, c.max, window)
			b.begin(10)
			b.heard(10 + c.gap)
			b.wants(t, c.want)
			b.lateFrom(t, 10+c.gap+c.want+1)
		}
	}
}

// P15.2: a mean that is rounded up to a bound, or beyond it.
func TestRoundedToBounds(t *testing.T) {
	for _, c := range []struct{ min, max, want int }{{1, 2, 2}, {1, 3, 3}, {1, 4, 3}, {2, 9, 3}, {3, 9, 3}, {4, 9, 4}} {
		b := fresh(t, c.min, c.max, 3)
		b.begin(0)
		b.heard(1, 2, 4)
		b.wants(t, c.want)
		b.lateFrom(t, 4+c.want+1)
	}
}

// P15.2: as many gaps as the greatest window may have, and more: none of them is left out, and none of the others counts.
func TestGreatestWindow(t *testing.T) {
	for _, window := range []int{mostTime, mostTime - 1, 100} {
		b := fresh(t, 1, mostTime, window)
		b.begin(0)
		now := 700
		b.heard(now) // the first gap, of 700
		for range window - 1 {
			now++
			b.detector.Heard(now)
		}
		// Twice 700, and twice 1 for each of the others.
		if want := (2*(700+window-1) + window - 1) / window; b.detector.Limit() != want || want < 3 {
			t.Errorf("of %d gaps, Limit: %d, not %d", window, b.detector.Limit(), want)
		}
		b.detector.Heard(now + 1)
		if b.detector.Limit() != 2 || b.detector.Late(now+3) || !b.detector.Late(now+4) {
			t.Errorf("of %d gaps of 1, Limit: %d", window, b.detector.Limit())
		}
	}
}

// P15.2: whoever is asked tells, and changes nothing by that.
func TestAskingChangesNothing(t *testing.T) {
	asked, silent := fresh(t, 2, 40, 3), fresh(t, 2, 40, 3)
	for n, now := range []int{7, 9, 9, 14, 15, 30, 31, 32, 33} {
		for _, x := range append(ends(), now-1, now+3, now+90) {
			asked.detector.Late(x)
			asked.detector.Limit()
			asked.detector.Copy()
		}
		asked.heard(now)
		silent.heard(now)
		asked.look(t)
		if n == 5 {
			silent.look(t)
		}
	}
	if got, want := asked.detector.Limit(), silent.detector.Limit(); got != want {
		t.Errorf("Limit: %d, and unasked: %d", got, want)
	}
	asked.lateFrom(t, 36)
	silent.lateFrom(t, 36)
}

// P15.1, P15.2: all short runs of small times, held against the model, each on a copy of the one before it.
func TestAllShortRuns(t *testing.T) {
	var deeper func(b *both, now, left int)
	deeper = func(b *both, now, left int) {
		b.look(t)
		if left == 0 {
			return
		}
		for _, gap := range []int{-1, 0, 1, 2, 3} {
			next := b.apart()
			next.heard(now + gap)
			deeper(next, now+gap, left-1)
		}
		for _, gap := range []int{-1, 2} {
			next := b.apart()
			next.begin(now + gap)
			deeper(next, now+gap, left-1)
		}
		b.look(t)
	}
	for _, bounds := range [][2]int{{1, 1}, {1, 6}, {2, 4}, {3, 3}} {
		for window := 1; window <= 3; window++ {
			deeper(fresh(t, bounds[0], bounds[1], window), 1, 4)
		}
	}
	for window := 2; window <= 4; window++ {
		b := fresh(t, 1, 9, window)
		b.heard(10, 11, 13)
		deeper(b, 13, 4)
	}
}

// P15.1, P15.2: drawn runs, held against the model in each of their steps.
func TestRuns(t *testing.T) {
	for seed := range draw(300) {
		b := seed.detector(t)
		now := pick(&seed, 0, 3, 1000, mostNumber-200)
		for range 60 {
			now += seed.gap()
			switch seed.below(20) {
			case 0:
				b.begin(pick(&seed, slices.Concat(ends(), []int{now, now + 5, now - 5})...))
			case 1:
				b.begin(now)
			case 2:
				b.heard(now, pick(&seed, -1, 0, now-1, now))
			default:
				b.heard(now)
			}
			b.look(t)
		}
	}
}
