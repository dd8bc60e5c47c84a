package accrual_test

import (
	"math"
	"testing"

	"covey/accrual"
	"covey/api"
)

// Bounds and a window that may not be: ErrArg, and no detector.
func TestNewWrong(t *testing.T) {
	for _, c := range [][3]int{
		{0, 5, 1}, {-1, 5, 1}, {math.MinInt, 5, 1}, {0, mostTime, mostTime},
		{1, 0, 1}, {1, -1, 1}, {1, math.MinInt, 1}, {1, mostTime + 1, 1}, {1, math.MaxInt, 1}, {mostTime, mostTime + 1, 1},
		{2, 1, 1}, {5, 4, 1}, {mostTime, 1, 1}, {mostTime, mostTime - 1, 1},
		{mostTime + 1, mostTime, 1}, {mostTime + 1, mostTime + 1, 1}, {math.MaxInt, math.MaxInt, 1}, {mostTime + 2, mostTime + 1, 1},
		{0, 0, 1}, {-1, -1, 1}, {-2, -1, 1}, {math.MinInt, math.MaxInt, 1},
		{1, 5, 0}, {1, 5, -1}, {1, 5, math.MinInt}, {1, 5, mostTime + 1}, {1, 5, math.MaxInt}, {1, 1, 0}, {mostTime, mostTime, mostTime + 1},
		{0, 0, 0}, {0, 5, 0}, {5, 4, 0}, {1, mostTime + 1, mostTime + 1}, {mostTime + 1, mostTime + 1, mostTime + 1},
		{1<<32 + 1, 1<<32 + 2, 1}, {1, 1 << 32, 1}, {1, 1<<32 + 1, 1}, {1, 5, 1<<32 + 1},
	} {
		if d, e := accrual.New(c[0], c[1], c[2]); d != nil || e != api.ErrArg {
			t.Errorf("New(%v): %v, error %d", c, d, int(e))
		}
	}
}

// Each choice of numbers in their range and beyond it: which ones are refused.
func TestNewAll(t *testing.T) {
	valid := map[int]bool{1: true, 2: true, 7: true, mostTime - 1: true, mostTime: true}
	numbers := []int{math.MinInt, -mostTime, -1, 0, 1, 2, 7, mostTime - 1, mostTime, mostTime + 1, 2 * mostTime, 1 << 32, 1<<32 + 1, math.MaxInt}
	for _, min := range numbers {
		for _, max := range numbers {
			for _, window := range numbers {
				want := api.ErrArg
				if valid[min] && valid[max] && valid[window] && min <= max {
					want = api.OK
				}
				d, e := accrual.New(min, max, window)
				if e != want || (d == nil) != (want != api.OK) {
					t.Errorf("New(%d, %d, %d): %v, error %d", min, max, window, d, int(e))
				}
				if d != nil && d.Limit() != max {
					t.Errorf("New(%d, %d, %d) has the limit %d", min, max, window, d.Limit())
				}
			}
		}
	}
}

// Of nil: nothing is done; 0, false, nil.
func TestNil(t *testing.T) {
	var d *accrual.Detector
	for range 3 {
		for _, now := range append(ends(), 5, 50, 5000) {
			d.Begin(now)
			d.Heard(now)
			if d.Late(now) {
				t.Errorf("nil is late at %d", now)
			}
			if got := d.Limit(); got != 0 {
				t.Errorf("Limit of nil: %d", got)
			}
			if c := d.Copy(); c != nil {
				t.Errorf("Copy of nil: %v", c)
			}
		}
	}
}

// A detector that New did not make, but that is not nil either, comes back; its limit is 0.
func TestZero(t *testing.T) {
	for _, d := range []*accrual.Detector{{}, (&accrual.Detector{}).Copy()} {
		for _, now := range []int{5, 5, 9, 4, math.MinInt, 30, math.MaxInt, math.MaxInt} {
			if d.Limit() != 0 || d.Copy().Limit() != 0 {
				t.Errorf("Limit: %d, of a copy %d", d.Limit(), d.Copy().Limit())
			}
			d.Heard(now)
			d.Begin(now)
			if d.Late(now) {
				t.Errorf("heard at %d, it is late then", now)
			}
		}
	}
}
