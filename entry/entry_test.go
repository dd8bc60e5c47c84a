package entry_test

import (
	"slices"
	"testing"

	"covey/api"
	"covey/entry"
)

// The chapter's examples.
func TestExamples(t *testing.T) {
	one, e := entry.New(api.Config{Seeds: []int{1, 2}, Retry: 3}, id(1, 1))
	if e != api.OK {
		t.Fatalf("New: error %d", int(e))
	}
	for n, want := range [][]int{{2}, nil, nil, {2}, nil, nil} {
		if asks, alone := one.Tick(); !slices.Equal(asks, want) || alone != (n+1 == 6) {
			t.Errorf("1.1, tick %d: asks %v, alone: %t", n+1, asks, alone)
		}
	}
	three, e := entry.New(api.Config{Seeds: []int{1, 2}, Retry: 3}, id(3, 1))
	if e != api.OK {
		t.Fatalf("New: error %d", int(e))
	}
	if asks, _ := three.Tick(); !slices.Equal(asks, []int{1, 2}) {
		t.Errorf("3.1, tick 1: asks %v", asks)
	}
	for n := 2; n < 100; n++ {
		if _, alone := three.Tick(); alone {
			t.Errorf("3.1, tick %d: alone", n)
		}
	}
}

// P19.1: tick by tick, written out: with Retry 1, 2, 3 and 4, at the first seed, at another one, and at none.
func TestWrittenOut(t *testing.T) {
	const not, is = false, true
	b := fresh(t, id(1, 1), 1, 1, 2)
	b.wants(t, not, 2)
	b.wants(t, is, 2)
	b.wants(t, is, 2)
	b.wants(t, is, 2)

	b = fresh(t, id(5, 2), 2, 5, 2, 9)
	b.wants(t, not, 2, 9)
	b.wants(t, not)
	b.wants(t, not, 2, 9)
	b.wants(t, is)
	b.wants(t, is, 2, 9)
	b.wants(t, is)
	b.wants(t, is, 2, 9)
	b.answered(t)
	b.wants(t, not)
	b.wants(t, not, 2, 9)

	b = fresh(t, id(2, 1), 3, 5, 2, 9)
	for range 4 {
		b.wants(t, not, 5, 9)
		b.wants(t, not)
		b.wants(t, not)
	}

	b = fresh(t, id(12, 3), 4, 12)
	for range 7 {
		b.wants(t, not)
	}
	b.wants(t, is)
	b.wants(t, is)

	b = fresh(t, id(7, 1), 4, 12, 1)
	for range 3 {
		b.wants(t, not, 12, 1)
		b.wants(t, not)
		b.wants(t, not)
		b.wants(t, not)
	}
}

// P19.1: whom it asks: written out, for Seeds in order and not, with its own address first, in the middle, last, several times, and not among them; and whether it is the first seed.
func TestWhom(t *testing.T) {
	for _, c := range []struct {
		seeds []int
		addr  int
		asks  []int
		first bool
	}{
		{nil, 1, nil, false},
		{[]int{}, 1, nil, false},
		{[]int{1}, 1, nil, true},
		{[]int{1, 1, 1}, 1, nil, true},
		{[]int{12}, 12, nil, true},
		{[]int{1}, 2, []int{1}, false},
		{[]int{12}, 1, []int{12}, false},
		{[]int{1, 2}, 1, []int{2}, true},
		{[]int{1, 2}, 2, []int{1}, false},
		{[]int{2, 1}, 1, []int{2}, false},
		{[]int{2, 1}, 2, []int{1}, true},
		{[]int{2, 1}, 3, []int{2, 1}, false},
		{[]int{12, 1}, 5, []int{12, 1}, false},
		{[]int{3, 5, 7}, 3, []int{5, 7}, true},
		{[]int{3, 5, 7}, 5, []int{3, 7}, false},
		{[]int{3, 5, 7}, 7, []int{3, 5}, false},
		{[]int{3, 5, 7}, 4, []int{3, 5, 7}, false},
		{[]int{7, 3, 5}, 4, []int{7, 3, 5}, false},
		{[]int{7, 3, 5}, 7, []int{3, 5}, true},
		{[]int{2, 2}, 1, []int{2}, false},
		{[]int{4, 2, 4, 2, 3}, 1, []int{4, 2, 3}, false},
		{[]int{4, 2, 4, 2, 3}, 4, []int{2, 3}, true},
		{[]int{4, 2, 4, 2, 3}, 2, []int{4, 3}, false},
		{[]int{0}, 1, nil, false},
		{[]int{0, 1}, 1, nil, false},
		{[]int{0, 1}, 2, []int{1}, false},
		{[]int{13, 1, 2}, 1, []int{2}, false},
		{[]int{-1, 2}, 1, []int{2}, false},
		{[]int{1, 0, 2, 13, 12, -1}, 1, []int{2, 12}, true},
		{[]int{1, 0, 2, 13, 12, -1}, 12, []int{1, 2}, false},
		{[]int{1<<32 + 1, 1}, 1, nil, false},
		{[]int{1, 2, 3, 4, 5, 6, 7, 8, 9, 10, 11, 12}, 1, []int{2, 3, 4, 5, 6, 7, 8, 9, 10, 11, 12}, true},
		{[]int{1, 2, 3, 4, 5, 6, 7, 8, 9, 10, 11, 12}, 12, []int{1, 2, 3, 4, 5, 6, 7, 8, 9, 10, 11}, false},
		{[]int{12, 11, 10, 9, 8, 7, 6, 5, 4, 3, 2, 1}, 6, []int{12, 11, 10, 9, 8, 7, 5, 4, 3, 2, 1}, false},
	} {
		for _, inc := range []int{1, 2, mostInc} {
			b := fresh(t, id(c.addr, inc), 2, c.seeds...)
			for range 2 {
				b.wants(t, false, c.asks...)
				b.tick(t)
			}
			b.wants(t, c.first, c.asks...)
		}
	}
}

// P19.1: Seeds of one to five addresses in each order, at each address.
func TestEachOrder(t *testing.T) {
	for _, addrs := range [][]int{{5}, {1, 2}, {1, 12}, {2, 5, 9}, {1, 6, 7, 12}, {1, 3, 4, 11, 12}} {
		for _, seeds := range orders(addrs) {
			for addr := 1; addr <= mostAddr; addr++ {
				want := slices.DeleteFunc(slices.Clone(seeds), func(x int) bool { return x == addr })
				b := fresh(t, id(addr, 1), 2, seeds...)
				b.wants(t, false, want...)
				b.wants(t, false)
				b.wants(t, false, want...)
				b.wants(t, addr == seeds[0])
				b.wants(t, addr == seeds[0], want...)
			}
		}
	}
}

// P19.1: all short lists of addresses and other numbers, several times the same among them, held against the model.
func TestAllShortSeeds(t *testing.T) {
	for _, seeds := range lists([]int{-1, 0, 1, 2, 12, 13}, 4) {
		for _, addr := range []int{1, 2, 3, 12} {
			fresh(t, id(addr, 1), 2, seeds...).passes(t, 6)
		}
	}
}

// P19.1: numbers that are no addresses, as the first one of Seeds, the last one, in the middle, and alone: they are not asked, and whoever comes after the first one is no first seed.
func TestNoAddresses(t *testing.T) {
	for _, x := range noAddrs() {
		for addr := 1; addr <= mostAddr; addr++ {
			for _, seeds := range [][]int{{x}, {x, x}, {x, addr}, {x, addr, 2}, {addr, x}, {addr, x, 2, x}, {2, x, addr}, {x, 2, 12, addr, x}} {
				fresh(t, id(addr, 1), 1, seeds...).passes(t, 4)
			}
			b := fresh(t, id(addr, 1), 1, x, addr)
			b.wants(t, false)
			b.wants(t, false)
			b = fresh(t, id(addr, 1), 1, addr, x)
			b.wants(t, false)
			b.wants(t, true)
		}
	}
}

// P19.1: long Seeds, each address many times.
func TestLongSeeds(t *testing.T) {
	var seeds []int
	for n := range 2000 {
		seeds = append(seeds, (n*n+5*n+7)%19-2)
	}
	for addr := 1; addr <= mostAddr; addr++ {
		fresh(t, id(addr, 1), 3, seeds...).passes(t, 9)
	}
}

// P19.1: the ticks in which it asks, and from which on it stands alone, for each Retry up to 40, and some up to the greatest one: by one tick, ahead and behind.
func TestEachRetry(t *testing.T) {
	retries := []int{100, 1000, 2047, 2048, mostTime - 1, mostTime}
	for retry := 1; retry <= 40; retry++ {
		retries = append(retries, retry)
	}
	for _, retry := range retries {
		first, other := fresh(t, id(3, 1), retry, 3, 8), fresh(t, id(4, 1), retry, 3, 8)
		for n := 1; n <= 3*retry+2; n++ {
			asks := n == 1 || n == retry+1 || n == 2*retry+1 || n == 3*retry+1 || retry == 1
			a, alone := first.entry.Tick()
			if (len(a) > 0) != asks || asks && !slices.Equal(a, []int{8}) || alone != (n >= 2*retry) {
				t.Fatalf("the first seed, Retry %d, tick %d: asks %v, alone: %t", retry, n, a, alone)
			}
			a, alone = other.entry.Tick()
			if (len(a) > 0) != asks || asks && !slices.Equal(a, []int{3, 8}) || alone {
				t.Fatalf("another one, Retry %d, tick %d: asks %v, alone: %t", retry, n, a, alone)
			}
			if first.entry.Ticks() != n || other.entry.Ticks() != n {
				t.Fatalf("tick %d, Ticks: %d and %d", n, first.entry.Ticks(), other.entry.Ticks())
			}
		}
	}
}

// P19.1: many ticks in a row: it asks again and again, and stays alone.
func TestManyTicks(t *testing.T) {
	for _, retry := range []int{1, 2, 3, 7, 1024, mostTime} {
		e, _ := entry.New(config(retry, 1, 2), id(1, 1))
		asked := 0
		for n := 1; n <= 200000; n++ {
			asks, alone := e.Tick()
			if asked += len(asks); asked != (n+retry-1)/retry || alone != (n >= 2*retry) {
				t.Fatalf("Retry %d, tick %d: asks %v, %d times until now, alone: %t", retry, n, asks, asked, alone)
			}
		}
		if e.Ticks() != 200000 {
			t.Errorf("Ticks: %d", e.Ticks())
		}
	}
}

// P19.1: an answer ahead of the first tick, and between any two ticks, once and several times: from then on it does not stand alone, and asks as before.
func TestAnswered(t *testing.T) {
	for retry := 1; retry <= 5; retry++ {
		for ahead := range 4*retry + 2 {
			for answers := 1; answers <= 3; answers++ {
				b := fresh(t, id(1, 1), retry, 1, 2)
				b.passes(t, ahead)
				for range answers {
					b.answered(t)
				}
				for range 4 * retry {
					if _, alone := b.tick(t); alone {
						t.Fatalf("Retry %d, answered after tick %d: alone in tick %d", retry, ahead, b.entry.Ticks())
					}
					if answers == 2 {
						b.answered(t)
					}
				}
			}
		}
	}
}

// P19.1: just in time: answered after tick 2 Retry - 1 it never stands alone; after tick 2 Retry it did once.
func TestAnsweredInTime(t *testing.T) {
	for _, retry := range []int{1, 2, 3, 10, mostTime} {
		for _, late := range []int{0, 1, 2} {
			e, _ := entry.New(config(retry, 6), id(6, 1))
			times := 0
			for n := 1; n <= 2*retry+5; n++ {
				if _, alone := e.Tick(); alone {
					times++
				}
				if n == 2*retry-1+late {
					e.Answered()
				}
			}
			if times != late {
				t.Errorf("Retry %d, answered %d ticks late: alone in %d ticks", retry, late, times)
			}
		}
	}
}

// P19.1: New asks nothing of a configuration but its Seeds, and Retry.
func TestOtherSettings(t *testing.T) {
	for _, c := range []api.Config{
		{},
		{Watch: -1, Min: 9, Max: 3, Window: -4, Stable: 1 << 40, Unstable: -1, Quorum: 77, Delay: -5, Term: 1, Hold: 9, Queue: -3, Events: -1, Strategy: 200, Alone: true, Weak: true},
		{Watch: 3, Min: 2, Max: 5, Window: 3, Stable: 4, Queue: 8, Events: 8, Strategy: api.Lease, Term: 10, Hold: 5},
	} {
		c.Seeds, c.Retry = []int{2, 9}, 3
		e, err := entry.New(c, id(2, 1))
		if e == nil || err != api.OK {
			t.Fatalf("New(%v): %v, error %d", c, e, int(err))
		}
		b := &both{e, fresh(t, id(2, 1), 3, 2, 9).model}
		b.passes(t, 10)
	}
}

// P19.1, P19.2: drawn runs, held against the model in each of their steps.
func TestRuns(t *testing.T) {
	alone := 0
	for d := range draw(3000) {
		b := d.node(t)
		often := pick(&d, 3, 15, 200)
		for range 30 {
			if d.below(often) == 0 {
				b.answered(t)
			} else if _, is := b.tick(t); is {
				alone++
			}
		}
	}
	if alone < 1000 {
		t.Errorf("only %d times alone", alone)
	}
}
