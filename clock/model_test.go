package clock_test

import (
	"cmp"
	"math"
	"slices"
	"testing"

	"covey/api"
	"covey/clock"
)

// The chapter's terms in another way than the package has them: what a list says is a map, and all limits and results stand here as numbers, so that no constant is taken on trust.

// says returns what a list says, for each ID of which it says something.
func says(c []api.Tick) map[api.ID]int {
	said := map[api.ID]int{}
	for _, t := range c {
		if t.N > said[t.Of] {
			said[t.Of] = t.N
		}
	}
	return said
}

func order(a, b api.ID) int {
	return cmp.Or(cmp.Compare(a.Addr, b.Addr), cmp.Compare(a.Inc, b.Inc))
}

// listed returns a map as ticks by increasing IDs.
func listed(said map[api.ID]int) []api.Tick {
	l := make([]api.Tick, 0, len(said))
	for id, n := range said {
		l = append(l, api.Tick{Of: id, N: n})
	}
	slices.SortFunc(l, func(s, t api.Tick) int { return order(s.Of, t.Of) })
	return l
}

func joinOf(a, b []api.Tick) []api.Tick {
	return listed(says(slices.Concat(a, b)))
}

// behind reports whether a list says more of no ID, and less of some.
func behind(a, b []api.Tick) bool {
	inA, inB := says(a), says(b)
	for id, n := range inA {
		if n > inB[id] {
			return false
		}
	}
	for id, n := range inB {
		if n > inA[id] {
			return true
		}
	}
	return false
}

// compareOf returns 1, 2, 3, 4: same, behind, ahead, apart.
func compareOf(a, b []api.Tick) uint8 {
	switch {
	case slices.Equal(listed(says(a)), listed(says(b))):
		return 1
	case behind(a, b):
		return 2
	case behind(b, a):
		return 3
	}
	return 4
}

func validID(id api.ID) bool {
	return id.Addr >= 1 && id.Addr <= 12 && id.Inc >= 1 && id.Inc <= 1048576
}

func mayOf(c []api.Tick) bool {
	for _, t := range c {
		if !validID(t.Of) || t.N < 1 || t.N > 1099511627776 {
			return false
		}
	}
	// What increases, each ID once, is what the list says, as a list.
	return len(c) <= 64 && slices.Equal(c, listed(says(c)))
}

func upOf(c []api.Tick, id api.ID) ([]api.Tick, api.Errno) {
	said := says(c)
	switch {
	case !mayOf(c) || !validID(id):
		return nil, api.ErrForm
	case said[id] == 1099511627776, said[id] == 0 && len(c) == 64:
		return nil, api.ErrTooLarge
	}
	said[id]++
	return listed(said), api.OK
}

// checkOne holds all calls about one list, and an ID, against the model.
func checkOne(t *testing.T, c []api.Tick, id api.ID) {
	t.Helper()
	if got := clock.May(c); got != mayOf(c) {
		t.Fatalf("May(%v): %t", c, got)
	}
	if got, want := clock.Get(c, id), says(c)[id]; got != want {
		t.Fatalf("Get(%v, %v): %d, not %d", c, id, got, want)
	}
	got, e := clock.Up(c, id)
	if want, wantE := upOf(c, id); e != wantE || !slices.Equal(got, want) {
		t.Fatalf("Up(%v, %v): %v, %v, not %v, %v", c, id, got, e, want, wantE)
	}
}

// checkTwo holds all calls about two lists against the model.
func checkTwo(t *testing.T, a, b []api.Tick) {
	t.Helper()
	if got, want := clock.Join(a, b), joinOf(a, b); !slices.Equal(got, want) {
		t.Fatalf("Join(%v, %v): %v, not %v", a, b, got, want)
	}
	if got, want := clock.Compare(a, b), compareOf(a, b); got != want {
		t.Fatalf("Compare(%v, %v): %d, not %d", a, b, got, want)
	}
}

func id(addr, inc int) api.ID { return api.ID{Addr: addr, Inc: inc} }

func tick(addr, inc, n int) api.Tick { return api.Tick{Of: id(addr, inc), N: n} }

// fewIDs are some that differ in one number alone, or in both, one of which increases while the other one decreases.
var fewIDs = []api.ID{{Addr: 1, Inc: 1}, {Addr: 1, Inc: 2}, {Addr: 2, Inc: 1}, {Addr: 3, Inc: 5}}

// anyNumbers are the limits of addresses, incarnations and counts, what is beside them, and the ends of all numbers.
func anyNumbers() []int {
	return []int{math.MinInt, math.MinInt + 1, -1, 0, 1, 2, 12, 13, 1 << 20, 1<<20 + 1, 1<<40 - 1, 1 << 40, 1<<40 + 1, math.MaxInt - 1, math.MaxInt}
}

// anyIDs are IDs, most of them invalid, of all pairs of these numbers.
func anyIDs() []api.ID {
	var l []api.ID
	for _, addr := range anyNumbers() {
		for _, inc := range anyNumbers() {
			l = append(l, id(addr, inc))
		}
	}
	return l
}

// ticksOf are all ticks of some IDs and some numbers.
func ticksOf(ids []api.ID, numbers []int) []api.Tick {
	var l []api.Tick
	for _, of := range ids {
		for _, n := range numbers {
			l = append(l, api.Tick{Of: of, N: n})
		}
	}
	return l
}

// shortLists are all lists of some ticks up to a length, in every order, with each tick any number of times.
func shortLists(ticks []api.Tick, longest int) [][]api.Tick {
	lists := [][]api.Tick{nil}
	for from := 0; len(lists[from]) < longest; from++ {
		for _, x := range ticks {
			lists = append(lists, append(slices.Clone(lists[from]), x))
		}
	}
	return lists
}

// clocksOf are all valid clocks of some IDs, given by increasing ones, that say at most so much of each.
func clocksOf(ids []api.ID, most int) [][]api.Tick {
	clocks := [][]api.Tick{nil}
	for _, of := range ids {
		for _, c := range slices.Clone(clocks) {
			for n := 1; n <= most; n++ {
				clocks = append(clocks, append(slices.Clone(c), api.Tick{Of: of, N: n}))
			}
		}
	}
	return clocks
}

// rise returns n valid ticks in increasing order, several of one address among them.
func rise(n int) []api.Tick {
	l := make([]api.Tick, n)
	for i := range l {
		l[i] = tick(1+i*12/n, 1+3*i, 1+i%5)
	}
	return l
}

// draw returns the next one of a fixed sequence of numbers.
type draw uint64

func (d *draw) below(n int) int {
	*d = *d*6364136223846793005 + 1442695040888963407
	return int(uint64(*d)>>20) % n
}

// list draws a list of n of these ticks.
func (d *draw) list(n int, ticks []api.Tick) []api.Tick {
	l := make([]api.Tick, n)
	for i := range l {
		l[i] = ticks[d.below(len(ticks))]
	}
	return l
}
