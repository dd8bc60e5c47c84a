package clock_test

import (
	"slices"
	"testing"

	"covey/api"
	"covey/clock"
)

// lawLists are the lists of which the laws are asked: valid clocks of three IDs, and some lists that are not valid.
func lawLists() [][]api.Tick {
	lists := clocksOf(fewIDs[:3], 2)
	d := draw(5)
	few, many := ticksOf(fewIDs, []int{-1, 0, 1, 2, 3}), ticksOf(anyIDs(), anyNumbers())
	for n := range 8 {
		lists = append(lists, d.list(n, few), d.list(n, many[:40]), d.list(n, many))
	}
	return lists
}

// idsIn are all IDs that occur in some lists, and one that does not.
func idsIn(lists ...[]api.Tick) []api.ID {
	ids := []api.ID{{Addr: 7, Inc: 77}}
	for _, x := range slices.Concat(lists...) {
		ids = append(ids, x.Of)
	}
	return ids
}

// atMost reports whether a clock is behind another one, or the same.
func atMost(a, b []api.Tick) bool {
	result := clock.Compare(a, b)
	return result == clock.Behind || result == clock.Same
}

func checkSame(t *testing.T, law string, got, want []api.Tick, lists ...[]api.Tick) {
	t.Helper()
	if !slices.Equal(got, want) || clock.Compare(got, want) != clock.Same {
		t.Fatalf("%s of %v: %v, and %v", law, lists, got, want)
	}
}

// P5.3: a Join says of each ID the greater of what both say; it is behind none of them.
func TestJoinIsAnUpperBound(t *testing.T) {
	for _, a := range lawLists() {
		for _, b := range lawLists() {
			join := clock.Join(a, b)
			for _, of := range idsIn(a, b) {
				if got, want := clock.Get(join, of), max(clock.Get(a, of), clock.Get(b, of)); got != want {
					t.Fatalf("Join(%v, %v) says %d of %v, not %d", a, b, got, of, want)
				}
			}
			if !atMost(a, join) || !atMost(b, join) {
				t.Fatalf("Join(%v, %v): %v is behind, or apart from, one of both", a, b, join)
			}
		}
	}
}

// P5.3: a clock that is behind neither, nor apart from either, is not behind their Join.
func TestJoinIsTheLeastUpperBound(t *testing.T) {
	found := 0
	for _, a := range lawLists() {
		for _, b := range lawLists() {
			join := clock.Join(a, b)
			for _, c := range lawLists() {
				if !atMost(a, c) || !atMost(b, c) {
					continue
				}
				found++
				if !atMost(join, c) {
					t.Fatalf("%v is not behind %v and %v, but it is behind their Join", c, a, b)
				}
			}
		}
	}
	if found == 0 {
		t.Error("no upper bound was asked")
	}
}

// P5.2: a Join has each ID of which something is said once, in increasing order, and no other one; of valid clocks it is valid.
func TestJoinIsAClock(t *testing.T) {
	for _, a := range lawLists() {
		for _, b := range lawLists() {
			join := clock.Join(a, b)
			for i, x := range join {
				if x.N <= 0 || i > 0 && order(join[i-1].Of, x.Of) >= 0 {
					t.Fatalf("Join(%v, %v): %v", a, b, join)
				}
			}
			if clock.May(a) && clock.May(b) && !clock.May(join) {
				t.Fatalf("Join(%v, %v): %v is not valid", a, b, join)
			}
		}
	}
}

// P5.4: Join is idempotent and commutative.
func TestLawsOfTwo(t *testing.T) {
	for _, a := range lawLists() {
		once := clock.Join(a, nil)
		checkSame(t, "Join with itself", clock.Join(a, a), once, a)
		checkSame(t, "Join again", clock.Join(once, a), once, a)
		if clock.May(a) {
			checkSame(t, "Join of a valid clock with itself", clock.Join(a, a), a, a)
		}
		for _, b := range lawLists() {
			checkSame(t, "Join either way", clock.Join(a, b), clock.Join(b, a), a, b)
		}
	}
}

// P5.4: Join is associative.
func TestLawsOfThree(t *testing.T) {
	for _, a := range lawLists() {
		for _, b := range lawLists() {
			for _, c := range lawLists() {
				checkSame(t, "Join, associated", clock.Join(clock.Join(a, b), c), clock.Join(a, clock.Join(b, c)), a, b, c)
			}
		}
	}
}

// P5.5: exchanging the arguments of Compare exchanges Behind and Ahead, and nothing else.
func TestCompareEitherWay(t *testing.T) {
	var found [5]int
	for _, a := range lawLists() {
		if got := clock.Compare(a, a); got != clock.Same {
			t.Fatalf("Compare(%v, %v): %d", a, a, got)
		}
		for _, b := range lawLists() {
			one, other := clock.Compare(a, b), clock.Compare(b, a)
			if one < clock.Same || one > clock.Apart || other != exchanged(one) {
				t.Fatalf("Compare(%v, %v): %d, the other way %d", a, b, one, other)
			}
			found[one]++
		}
	}
	if slices.Contains(found[1:], 0) {
		t.Errorf("results that were asked: %v", found)
	}
}

// P5.5: being behind is transitive.
func TestBehindIsTransitive(t *testing.T) {
	for _, a := range lawLists() {
		for _, b := range lawLists() {
			if clock.Compare(a, b) != clock.Behind {
				continue
			}
			for _, c := range lawLists() {
				if clock.Compare(b, c) == clock.Behind && clock.Compare(a, c) != clock.Behind {
					t.Fatalf("%v is behind %v, which is behind %v: Compare of the first and the last: %d", a, b, c, clock.Compare(a, c))
				}
			}
		}
	}
}

// P5.5: a clock that is behind another one, joined with it, is that one; one that is not, is not.
func TestJoinOfOneBehind(t *testing.T) {
	for _, a := range lawLists() {
		for _, b := range lawLists() {
			behind := atMost(a, b)
			if got := clock.Compare(clock.Join(a, b), b) == clock.Same; got != behind {
				t.Fatalf("Compare(%v, %v): %d, and their Join: %v", a, b, clock.Compare(a, b), clock.Join(a, b))
			}
			if behind && clock.May(b) {
				checkSame(t, "Join with one that is ahead", clock.Join(a, b), b, a, b)
				checkSame(t, "Join with one that is behind", clock.Join(b, a), b, a, b)
			}
		}
	}
}

// P5.6: after Up a clock is ahead of what it was, by exactly one, for exactly that ID; it is valid.
func TestUpIsOneMore(t *testing.T) {
	for _, c := range append(clocksOf(fewIDs, 2), rise(20), rise(63)) {
		for _, of := range append(idsIn(c), fewIDs...) {
			up, e := clock.Up(c, of)
			if e != api.OK || !clock.May(up) {
				t.Fatalf("Up(%v, %v): %v, %v", c, of, up, e)
			}
			if clock.Compare(up, c) != clock.Ahead || clock.Compare(c, up) != clock.Behind {
				t.Fatalf("Up(%v, %v): %v is not ahead", c, of, up)
			}
			for _, other := range append(idsIn(c, up), fewIDs...) {
				want := clock.Get(c, other)
				if other == of {
					want++
				}
				if got := clock.Get(up, other); got != want {
					t.Fatalf("Up(%v, %v) says %d of %v, not %d", c, of, got, other, want)
				}
			}
		}
	}
}

// P5.6: from no clock on, one by one, up to MaxList IDs, in any order; the counts are how often each one went up.
func TestUpAgainAndAgain(t *testing.T) {
	d := draw(6)
	ids := idsIn(rise(63))
	var c []api.Tick
	times := map[api.ID]int{}
	for range 1000 {
		of := ids[d.below(len(ids))]
		times[of]++
		up, e := clock.Up(c, of)
		if e != api.OK || !clock.May(up) || clock.Compare(c, up) != clock.Behind {
			t.Fatalf("Up(%v, %v): %v, %v", c, of, up, e)
		}
		c = up
	}
	if len(c) != 64 || !slices.Equal(c, listed(times)) {
		t.Errorf("%v, not %v", c, listed(times))
	}
}

// P5.7: two clocks that resulted from the same one by Up, each for an ID of its own, are apart, and both are behind their Join.
func TestUpApart(t *testing.T) {
	for _, c := range append(clocksOf(fewIDs, 2), rise(20), rise(62)) {
		for _, of := range fewIDs {
			for _, other := range fewIDs {
				if other == of {
					continue
				}
				for _, times := range [][2]int{{1, 1}, {1, 3}, {2, 1}} {
					a, b := upTimes(t, c, of, times[0]), upTimes(t, c, other, times[1])
					join := clock.Join(a, b)
					if clock.Compare(a, b) != clock.Apart || clock.Compare(b, a) != clock.Apart {
						t.Fatalf("%v, %v: %v and %v are not apart", c, times, a, b)
					}
					if clock.Compare(a, join) != clock.Behind || clock.Compare(b, join) != clock.Behind {
						t.Fatalf("%v and %v are not behind their Join %v", a, b, join)
					}
				}
			}
		}
	}
}

// upTimes returns a clock after some Ups for an ID.
func upTimes(t *testing.T, c []api.Tick, of api.ID, times int) []api.Tick {
	t.Helper()
	for range times {
		up, e := clock.Up(c, of)
		if e != api.OK {
			t.Fatalf("Up(%v, %v): %v", c, of, e)
		}
		c = up
	}
	return c
}
