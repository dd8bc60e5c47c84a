package ring_test

import (
	"slices"
	"testing"

	"covey/api"
	"covey/ring"
)

// P14.2: the ring contains each of the IDs except me, once.
func TestEachOnce(t *testing.T) {
	some := someIDs()
	for _, ids := range parts(some) {
		for _, me := range append(beside(), some...) {
			got := ring.Order(ids, me)
			if !slices.Equal(sorted(slices.Clone(got)...), without(ids, []api.ID{me})) {
				t.Fatalf("Order(%v, %v): %v", ids, me, got)
			}
		}
	}
}

// P14.2: the ring of the next one is the same, rotated, with me as the last one instead (if me is one of the IDs).
func TestRotated(t *testing.T) {
	some := someIDs()
	for _, ids := range parts(some) {
		for _, me := range append(beside(), some...) {
			of := ring.Order(ids, me)
			if len(of) == 0 {
				continue
			}
			want := slices.Clone(of[1:])
			if slices.Contains(ids, me) {
				want = append(want, me)
			}
			if got := ring.Order(ids, of[0]); !slices.Equal(got, want) {
				t.Fatalf("of %v the ring after %v is %v, and that after %v is %v", ids, me, of, of[0], got)
			}
		}
	}
}

// P14.2: whoever goes on and on to the next one comes by all of the IDs, and then back.
func TestAllTheWayRound(t *testing.T) {
	d := draw(2)
	for k := range 60 {
		ids := d.rise(k + 2)
		at, by := ids[0], []api.ID{}
		for range ids {
			by = append(by, at)
			at = ring.Order(ids, at)[0]
		}
		if !slices.Equal(by, ids) || at != ids[0] {
			t.Fatalf("round %v: %v, and then %v", ids, by, at)
		}
	}
}

// round is a round of nodes that look once each: afterwards one does not reach exactly those that it watches and that are no nodes.
func round(ids, nodes []api.ID, nots [][]api.ID, n int) {
	for i, me := range nodes {
		nots[i] = without(ring.Watched(ids, me, nots[i], n), nodes)
	}
}

// checkDetection holds P14.3 for some nodes, given whom each of them does not reach at first.
func checkDetection(t *testing.T, ids, nodes []api.ID, nots [][]api.ID, n int) {
	t.Helper()
	for range ids {
		round(ids, nodes, nots, n)
	}
	for _, x := range without(ids, nodes) {
		if !slices.ContainsFunc(nots, func(not []api.ID) bool { return slices.Contains(not, x) }) {
			t.Fatalf("of %v the nodes %v, which watch %d, do not detect %v: %v", ids, nodes, n, x, nots)
		}
	}
	for i, me := range nodes {
		if len(both(nots[i], nodes)) > 0 || slices.Contains(nots[i], me) {
			t.Fatalf("of %v the node %v does not reach %v", ids, me, nots[i])
		}
	}
}

// P14.3: whatever part of the IDs are nodes, they detect all others.
func TestDetection(t *testing.T) {
	for _, ids := range append(parts(someIDs()), first(1, 2, 3, 4, 5, 6, 7, 8, 9, 10), first(1, 2, 3, 4, 5, 6, 7, 8, 9, 10, 11, 12)) {
		for _, nodes := range parts(ids)[1:] {
			for n := 1; n <= 3; n++ {
				checkDetection(t, ids, nodes, make([][]api.ID, len(nodes)), n)
			}
		}
	}
}

// P14.3: nodes that are none of the IDs, and whoever is not reached at first, do not hinder that.
func TestDetectionFromAnywhere(t *testing.T) {
	d := draw(3)
	for k := range 3000 {
		ids := d.rise(1 + k%20)
		nodes := append(d.some(ids), ids[d.below(len(ids))])
		nodes = slices.Compact(sorted(append(nodes, d.some(beside())...)...))
		nots := make([][]api.ID, len(nodes))
		for i := range nots {
			nots[i] = sorted(append(d.some(ids), d.some(without(beside(), ids))...)...)
		}
		checkDetection(t, ids, nodes, nots, 1+d.below(3))
	}
}

// P14.3: one node that watches one other at a time detects one more in each round, until there are no more.
func TestOneMoreEachRound(t *testing.T) {
	ids, nots := first(1, 2, 3, 4, 5, 6), make([][]api.ID, 1)
	for k, want := range [][]api.ID{first(5), first(5, 6), first(1, 5, 6), first(1, 2, 5, 6), first(1, 2, 3, 5, 6), first(1, 2, 3, 5, 6)} {
		round(ids, first(4), nots, 1)
		if !slices.Equal(nots[0], want) {
			t.Fatalf("after round %d 4 does not reach %v, not %v", k+1, nots[0], want)
		}
	}
}

// P14.4: as many are watched as are in not, plus n, or all others that there are; with a greater n no fewer.
func TestNumber(t *testing.T) {
	some := someIDs()
	for _, ids := range parts(some) {
		for _, me := range append(beside(), some...) {
			others := without(ids, []api.ID{me})
			for _, not := range parts(some) {
				in, last := len(both(others, not)), 0
				for _, n := range numbers(len(ids)) {
					got := len(ring.Watched(ids, me, not, n))
					want := len(others)
					if more := max(n, 0); more < len(others)-in {
						want = in + more
					}
					if got != want || got < last {
						t.Fatalf("Watched(%v, %v, %v, %d): %d, not %d (%d with a lesser n)", ids, me, not, n, got, want, last)
					}
					last = got
				}
			}
		}
	}
}

// P14.4: whoever is watched is watched with a greater n, too.
func TestNobodyLess(t *testing.T) {
	d := draw(4)
	for k := range 500 {
		ids := d.rise(1 + k%30)
		me, not := ids[d.below(len(ids))], d.some(d.some(ids))
		var last []api.ID
		for n := range len(ids) + 2 {
			got := ring.Watched(ids, me, not, n)
			if len(without(last, got)) > 0 {
				t.Fatalf("Watched(%v, %v, %v, %d): %v, but with 1 less %v", ids, me, not, n, got, last)
			}
			last = got
		}
	}
}

// P14.5: whoever is behind an ID watches that one, whether it reaches it, or not; only one that is alone has nobody behind it.
func TestBehindWatches(t *testing.T) {
	for _, ids := range parts(someIDs()) {
		for _, of := range ids {
			b, is := ring.Behind(ids, of)
			if is != (len(ids) > 1) {
				t.Fatalf("Behind(%v, %v): %t", ids, of, is)
			}
			if !is {
				continue
			}
			for _, not := range parts(someIDs()) {
				for _, n := range numbers(len(ids)) {
					if n >= 1 && !slices.Contains(ring.Watched(ids, b, not, n), of) {
						t.Fatalf("of %v %v is behind %v, and does not watch it (not %v, %d)", ids, b, of, not, n)
					}
				}
			}
		}
	}
}

// P14.5: whoever is behind somebody is the last one of that one's ring, and that one the first of its ring.
func TestBehindAndOrder(t *testing.T) {
	d := draw(5)
	for k := range 300 {
		ids := d.rise(2 + k/4)
		if len(ids) < 2 {
			continue
		}
		of := ids[d.below(len(ids))]
		b, is := ring.Behind(ids, of)
		after := ring.Order(ids, of)
		if !is || b != after[len(after)-1] || ring.Order(ids, b)[0] != of {
			t.Fatalf("Behind(%v, %v): %v, %t", ids, of, b, is)
		}
	}
}
