package accrual_test

import "testing"

// runs draws detectors and what they are told, and asks what holds of each after each of its steps.
func runs(t *testing.T, holds func(t *testing.T, b *both, last int, d *draw)) {
	t.Helper()
	for seed := range draw(200) {
		b := seed.detector(t)
		last := seed.below(50)
		if seed.below(2) == 0 {
			b.begin(last)
		} else {
			b.heard(last)
		}
		holds(t, b, last, &seed)
		for range 50 {
			now := last + seed.gap()
			b.heard(now)
			last = max(last, now)
			holds(t, b, last, &seed)
		}
	}
}

// P15.3: the limit is within the bounds; it is never late as long as no more ticks passed than the lower one, and always when more passed than the upper one.
func TestBounds(t *testing.T) {
	within := 0
	runs(t, func(t *testing.T, b *both, last int, d *draw) {
		low, high := b.model.min, b.model.max
		limit := b.detector.Limit()
		if limit < low || limit > high {
			t.Fatalf("of %v Limit: %d", b.model, limit)
		}
		if low < limit && limit < high {
			within++
		}
		for _, passed := range []int{-last, -1, 0, 1, low / 2, low - 1, low} {
			if b.detector.Late(last + passed) {
				t.Fatalf("of %v late %d ticks after %d", b.model, passed, last)
			}
		}
		for _, passed := range []int{high + 1, high + 2, high + d.below(1000) + 1, 1 << 39} {
			if !b.detector.Late(last + passed) {
				t.Fatalf("of %v not late %d ticks after %d", b.model, passed, last)
			}
		}
	})
	if within < 500 {
		t.Errorf("only %d limits are no bounds", within)
	}
}

// P15.4: whoever is heard at regular intervals, twice or more often, has a limit of twice the interval, within the bounds; if it began, that was an interval ahead.
func TestSteady(t *testing.T) {
	for _, interval := range []int{0, 1, 2, 3, 7, 10, 11, 100, 2048, 5000, 1 << 30} {
		for _, bounds := range [][2]int{{1, 1}, {1, mostTime}, {2, 20}, {5, 6}, {6, 6}, {20, 22}, {mostTime, mostTime}} {
			for _, window := range []int{1, 2, 3, 5, mostTime} {
				for _, begins := range []bool{true, false} {
					b := fresh(t, bounds[0], bounds[1], window)
					now := 40
					if begins {
						b.begin(now)
						now += interval
					}
					b.heard(now)
					for range 9 {
						now += interval
						b.heard(now)
						b.wants(t, max(bounds[0], min(bounds[1], 2*interval)))
					}
				}
			}
		}
	}
}

// P15.4: after other intervals it is so as soon as none of them is recorded any more.
func TestSteadyAgain(t *testing.T) {
	for seed := range draw(60) {
		b := fresh(t, 1, mostTime, seed.below(9)+1)
		now := 0
		for range seed.below(30) {
			b.heard(now + seed.gap())
			now += 6000 // more than any gap
		}
		interval := seed.below(40) + 10
		for range b.model.window + 1 {
			b.heard(now)
			now += interval
		}
		b.wants(t, 2*interval)
	}
}

// P15.5: what is late is late at any later time, until somebody is heard.
func TestLater(t *testing.T) {
	runs(t, func(t *testing.T, b *both, last int, d *draw) {
		was := false
		for _, passed := range []int{-5, 0, 1, 2, 3, 4, 5, 6, 7, 8, 9, 10, 14, 20, 40, 100, 1000, 4000, 4097, 10000, 1 << 38, 1 << 41} {
			late := b.detector.Late(last + passed)
			if was && !late {
				t.Fatalf("of %v late before %d ticks, but not then", b.model, passed)
			}
			was = late
		}
		if !was {
			t.Fatalf("of %v never late", b.model)
		}
		// Begin is not hearing: what is late stays so.
		b.begin(last + 1<<38)
		if !b.detector.Late(last + 1<<38) {
			t.Fatalf("of %v not late any more by Begin", b.model)
		}
	})
}

// P15.5: one that is heard is not late now, nor before, however late it was.
func TestHeardNow(t *testing.T) {
	late := 0
	for seed := range draw(300) {
		b := seed.detector(t)
		now := seed.below(50)
		for range 50 {
			now += seed.gap() + seed.below(9)
			if b.detector.Late(now) {
				late++
			}
			b.heard(now)
			for _, x := range []int{now, now - 1, 0} {
				if b.detector.Late(x) {
					t.Fatalf("of %v heard at %d, late at %d", b.model, now, x)
				}
			}
		}
	}
	if late < 1000 {
		t.Errorf("only %d times late", late)
	}
}

// P15.5: at the ends of what counts, too, one that is heard is not late then.
func TestHeardAtEnds(t *testing.T) {
	for _, first := range ends() {
		for _, now := range ends() {
			b := fresh(t, 1, 5, 2)
			b.begin(first)
			b.heard(now)
			if b.detector.Late(now) {
				t.Errorf("begun at %d, heard at %d, late then", first, now)
			}
		}
	}
}

// P15.6: what was heard before the recorded gaps does not matter: detectors with other pasts, that heard the same since, tell the same, then and later.
func TestWindow(t *testing.T) {
	differed := 0
	for seed := range draw(300) {
		low := seed.below(4) + 1
		high, window := low+seed.below(200), pick(&seed, 1, 2, 3, 4, 9)
		one, other, young := fresh(t, low, high, window), fresh(t, low, high, window), fresh(t, low, high, window)
		for range seed.below(25) {
			one.heard(seed.below(1000))
		}
		other.begin(seed.below(1000))
		for range seed.below(4) {
			other.heard(seed.below(1000))
		}
		if one.detector.Limit() != other.detector.Limit() {
			differed++
		}
		now := 1000
		one.heard(now)
		other.heard(now)
		young.begin(now)
		for n := range 2*window + 3 {
			now += seed.below(60)
			one.heard(now)
			other.heard(now)
			young.heard(now)
			if n+1 < window {
				continue
			}
			limit := young.detector.Limit()
			if one.detector.Limit() != limit || other.detector.Limit() != limit {
				t.Fatalf("of %v, %v, %v Limit: %d, %d, %d", one.model, other.model, young.model, one.detector.Limit(), other.detector.Limit(), limit)
			}
			for _, x := range []int{now, now + limit, now + limit + 1} {
				if late := young.detector.Late(x); one.detector.Late(x) != late || other.detector.Late(x) != late {
					t.Fatalf("of %v, %v, %v Late(%d) differs", one.model, other.model, young.model, x)
				}
			}
		}
	}
	if differed < 100 {
		t.Errorf("only %d pasts differed", differed)
	}
}

// P15.6: the first one of the recorded gaps still matters, the one ahead of it does not.
func TestWindowEdge(t *testing.T) {
	for window := 1; window <= 20; window++ {
		for ahead := range 5 {
			b := fresh(t, 1, mostTime, window)
			now := 0
			b.begin(now)
			for range ahead {
				now += 3000
				b.heard(now)
			}
			now += 500
			b.heard(now)
			for n := 1; n < window; n++ {
				now++
				b.heard(now)
			}
			want := 1
			for want*window < 2*(500+window-1) {
				want++
			}
			b.wants(t, want)
			now++
			b.heard(now)
			b.wants(t, 2)
		}
	}
}
