package ring_test

import (
	"cmp"
	"math"
	"slices"
	"testing"

	"covey/api"
	"covey/ring"
)

// The chapter's terms in another way than the package has them: each ID is asked about by itself, how far it stands behind somebody, and no other layer is taken on trust.

func id(addr, inc int) api.ID { return api.ID{Addr: addr, Inc: inc} }

// first are the IDs of some addresses, with incarnation 1.
func first(addrs ...int) []api.ID {
	var l []api.ID
	for _, addr := range addrs {
		l = append(l, id(addr, 1))
	}
	return l
}

func order(a, b api.ID) int {
	return cmp.Or(cmp.Compare(a.Addr, b.Addr), cmp.Compare(a.Inc, b.Inc))
}

// between reports whether x comes ahead of y, for somebody who goes round from me.
func between(me, x, y api.ID) bool {
	if turnsX, turnsY := order(x, me) < 0, order(y, me) < 0; turnsX != turnsY {
		return turnsY
	}
	return order(x, y) < 0
}

// ahead counts those of some IDs, except me, that come ahead of x.
func ahead(ids []api.ID, me, x api.ID) int {
	n := 0
	for _, y := range ids {
		if y != me && between(me, y, x) {
			n++
		}
	}
	return n
}

// orderOf is the ring, each ID put at the place that its distance gives.
func orderOf(ids []api.ID, me api.ID) []api.ID {
	others := without(ids, []api.ID{me})
	out := make([]api.ID, len(others))
	for _, x := range others {
		out[ahead(others, me, x)] = x
	}
	return out
}

// watchedOf are those whom me watches.
func watchedOf(ids []api.ID, me api.ID, not []api.ID, n int) []api.ID {
	var out []api.ID
	reached := without(ids, not)
	for _, x := range ids {
		if x != me && (slices.Contains(not, x) || ahead(reached, me, x) < n) {
			out = append(out, x)
		}
	}
	return out
}

// behindOf is the predecessor of somebody.
func behindOf(ids []api.ID, of api.ID) (api.ID, bool) {
	for _, side := range []int{-1, 1} {
		for _, x := range slices.Backward(ids) {
			if order(x, of) == side {
				return x, true
			}
		}
	}
	return api.ID{}, false
}

// without are those of a list that are not in another one.
func without(l, m []api.ID) []api.ID {
	var out []api.ID
	for _, x := range l {
		if !slices.Contains(m, x) {
			out = append(out, x)
		}
	}
	return out
}

// both are those of a list that are in another one, too.
func both(l, m []api.ID) []api.ID { return without(l, without(l, m)) }

// checkRing holds the ring of somebody, and the predecessor, against the model.
func checkRing(t *testing.T, ids []api.ID, me api.ID) {
	t.Helper()
	if got, want := ring.Order(ids, me), orderOf(ids, me); !slices.Equal(got, want) {
		t.Fatalf("Order(%v, %v): %v, not %v", ids, me, got, want)
	}
	want, wantIs := behindOf(ids, me)
	if got, is := ring.Behind(ids, me); got != want || is != wantIs {
		t.Fatalf("Behind(%v, %v): %v, %t, not %v, %t", ids, me, got, is, want, wantIs)
	}
}

// checkWatched holds those whom somebody watches against the model.
func checkWatched(t *testing.T, ids []api.ID, me api.ID, not []api.ID, n int) {
	t.Helper()
	if got, want := ring.Watched(ids, me, not, n), watchedOf(ids, me, not, n); !slices.Equal(got, want) {
		t.Fatalf("Watched(%v, %v, %v, %d): %v, not %v", ids, me, not, n, got, want)
	}
}

// someIDs are IDs, of which several differ in the incarnation alone.
func someIDs() []api.ID {
	return []api.ID{id(1, 1), id(2, 1), id(2, 2), id(2, api.MaxInc), id(5, 1), id(12, 3)}
}

// beside are IDs that are none of someIDs: ahead of them, in all gaps between them, behind them, and some that are not valid.
func beside() []api.ID {
	return []api.ID{{}, id(-1, 9), id(1, 0), id(1, 2), id(2, 3), id(2, api.MaxInc+1), id(4, 7), id(12, 2), id(12, 4), id(13, 1), id(math.MinInt, math.MinInt), id(math.MaxInt, math.MaxInt)}
}

// parts are all parts of a list, in its order.
func parts(l []api.ID) [][]api.ID {
	out := [][]api.ID{nil}
	for _, x := range l {
		for _, p := range out {
			out = append(out, append(slices.Clone(p), x))
		}
	}
	return out
}

// sorted is a list in increasing order.
func sorted(l ...api.ID) []api.ID {
	slices.SortFunc(l, order)
	return l
}

// numbers are numbers of whom to watch: below 0, 0, up to one more than there are, and the ends of all numbers.
func numbers(most int) []int {
	l := []int{math.MinInt, -1}
	for n := range most + 2 {
		l = append(l, n)
	}
	return append(l, math.MaxInt)
}

// draw draws numbers from a fixed sequence.
type draw uint64

func (d *draw) below(n int) int {
	*d = *d*6364136223846793005 + 1442695040888963407
	return int(uint64(*d)>>20) % n
}

// some draws a part of a list, in its order.
func (d *draw) some(l []api.ID) []api.ID {
	var out []api.ID
	for _, x := range l {
		if d.below(2) == 0 {
			out = append(out, x)
		}
	}
	return out
}

// rise draws an increasing list of n IDs.
func (d *draw) rise(n int) []api.ID {
	var l []api.ID
	for range n {
		l = append(l, id(1+d.below(api.MaxAddr), 1+d.below(4*n)))
	}
	return slices.Compact(sorted(l...))
}
