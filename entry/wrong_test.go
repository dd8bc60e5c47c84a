package entry_test

import (
	"math"
	"testing"

	"covey/api"
	"covey/entry"
)

// wrongRetries are numbers that Retry may not be.
func wrongRetries() []int {
	return []int{0, -1, -2, -mostTime, math.MinInt, mostTime + 1, mostTime + 2, 2 * mostTime, 1 << 16, 1<<16 + 1, 1 << 32, 1<<32 + 1, 1 << 40, math.MaxInt}
}

// wrongIDs are IDs that are not valid, in each way.
func wrongIDs() []api.ID {
	return []api.ID{
		{}, id(0, 1), id(-1, 1), id(math.MinInt, 1), id(mostAddr+1, 1), id(mostAddr+2, 1), id(64, 1), id(1<<32+1, 1), id(math.MaxInt, 1),
		id(1, 0), id(1, -1), id(1, math.MinInt), id(1, mostInc+1), id(1, mostInc+2), id(1, 1<<32+1), id(1, math.MaxInt), id(12, 0), id(12, mostInc+1),
		id(0, 0), id(-1, -1), id(13, 0), id(0, mostInc+1), id(13, mostInc+1), id(math.MinInt, math.MaxInt), id(math.MaxInt, math.MinInt),
	}
}

func refused(t *testing.T, c api.Config, me api.ID) {
	t.Helper()
	if e, err := entry.New(c, me); e != nil || err != api.ErrArg {
		t.Errorf("New(%d, %v, %v): %v, error %d", c.Retry, c.Seeds, me, e, int(err))
	}
}

// A Retry that may not be: ErrArg, and no node, whatever the Seeds, and the other settings.
func TestWrongRetry(t *testing.T) {
	for _, retry := range wrongRetries() {
		for _, me := range []api.ID{id(1, 1), id(2, 1), id(3, 9), id(12, mostInc)} {
			refused(t, config(retry, 1, 2), me)
			refused(t, config(retry), me)
			refused(t, api.Config{Seeds: []int{1}, Watch: 1, Min: 1, Max: 1, Window: 1, Retry: retry, Stable: 1, Strategy: api.Majority, Queue: 1, Events: 1}, me)
		}
	}
}

// An ID that is not valid: ErrArg, and no node, also where its address is a seed, or the first one.
func TestWrongID(t *testing.T) {
	for _, me := range wrongIDs() {
		for _, retry := range []int{1, 2, mostTime} {
			refused(t, config(retry, 1, 2), me)
			refused(t, config(retry, me.Addr), me)
			refused(t, config(retry, 12, me.Addr), me)
			refused(t, config(retry), me)
		}
		for _, retry := range wrongRetries() {
			refused(t, config(retry, 1), me)
		}
	}
}

// Each number in its range, at the ends of it.
func TestNewAtTheEnds(t *testing.T) {
	for _, retry := range []int{1, 2, 3, mostTime - 1, mostTime} {
		for _, me := range []api.ID{id(1, 1), id(1, mostInc), id(1, mostInc-1), id(2, 2), id(11, 1), id(12, 1), id(12, mostInc)} {
			for _, seeds := range [][]int{nil, {}, {1}, {me.Addr}, {0}, {13, 1}, {2, 1}, {math.MinInt, math.MaxInt}} {
				fresh(t, me, retry, seeds...).passes(t, 5)
			}
		}
	}
}

// Of nil: none, false, 0, nil; nothing is done.
func TestNil(t *testing.T) {
	var e *entry.Entry
	for range 3 {
		if asks, alone := e.Tick(); asks != nil || alone {
			t.Errorf("Tick of nil: %v, %t", asks, alone)
		}
		e.Answered()
		if n := e.Ticks(); n != 0 {
			t.Errorf("Ticks of nil: %d", n)
		}
		if c := e.Copy(); c != nil {
			t.Errorf("Copy of nil: %v", c)
		}
	}
}

// One that New did not make, but that is not nil either, comes back: it asks nobody, and does not stand alone.
func TestZero(t *testing.T) {
	for _, e := range []*entry.Entry{{}, (&entry.Entry{}).Copy()} {
		for n := 1; n <= 20; n++ {
			if asks, alone := e.Tick(); len(asks) > 0 || alone || e.Ticks() != n || e.Copy().Ticks() != n {
				t.Errorf("tick %d: asks %v, alone: %t", n, asks, alone)
			}
			if n == 10 {
				e.Answered()
			}
		}
	}
}
