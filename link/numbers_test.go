package link_test

import (
	"math"
	"testing"

	"covey/api"
)

// P12.1, P12.4: of a Beat, and of a Reply, only a greater N is accepted: not the same one, nor one less; one more, or more than that.
func TestNumbers(t *testing.T) {
	for _, kind := range []uint8{beat, reply} {
		for _, n := range []int{1, 2, 5, 127, 128, 1 << 31, 1 << 32, mostNumber - 1, mostNumber, math.MaxInt - 2} {
			b := fresh()
			take := func(want api.Errno, n int) {
				t.Helper()
				b.want(t, want, sent(kind, id(2, 1), me, n), me)
			}
			take(api.OK, n)
			take(api.ErrTwice, n)
			take(api.ErrTwice, n-1)
			take(api.ErrTwice, 0)
			take(api.ErrTwice, -n)
			take(api.ErrTwice, math.MinInt)
			take(api.OK, n+1)
			take(api.ErrTwice, n)
			take(api.ErrTwice, n+1)
			take(api.OK, math.MaxInt)
			take(api.ErrTwice, math.MaxInt)
			take(api.ErrTwice, n+2)
			b.lookAtAll(t)
		}
	}
}

// P12.1: the first frame of a life counts even if its N is 0; once something of it was accepted, 0 is the greatest N of each Kind of which none was.
func TestZeroAsFirst(t *testing.T) {
	for _, kind := range []uint8{beat, reply} {
		other := beat + reply - kind
		b := fresh()
		take := func(want api.Errno, kind uint8, inc, n int) {
			t.Helper()
			b.want(t, want, sent(kind, id(2, inc), me, n), me)
		}
		take(api.OK, kind, 1, 0)
		take(api.ErrTwice, kind, 1, 0)
		take(api.ErrTwice, other, 1, 0)
		take(api.OK, other, 1, 1)
		take(api.OK, kind, 1, 1)
		take(api.OK, kind, 2, 0)
		take(api.ErrTwice, kind, 2, 0)
		take(api.OK, kind, 2, 1)
		take(api.OK, gossip, 3, 0)
		take(api.ErrTwice, kind, 3, 0)
		take(api.ErrTwice, other, 3, 0)
		take(api.OK, gossip, 3, 0)
		take(api.OK, kind, 3, 1)
		b.lookAtAll(t)
	}
}

// P12.1: an N below 0, which no valid frame has, counts as the number that it is.
func TestBelowZero(t *testing.T) {
	for _, kind := range []uint8{beat, reply} {
		b := fresh()
		take := func(want api.Errno, n int) {
			t.Helper()
			b.want(t, want, sent(kind, id(2, 1), me, n), me)
		}
		take(api.OK, -5)
		take(api.ErrTwice, -5)
		take(api.ErrTwice, -6)
		take(api.OK, 1)
		take(api.ErrTwice, 0)
		take(api.ErrTwice, -4)
		b.lookAtAll(t)
	}
}

// P12.1: Beats and Replies are counted apart, and no other Kind is.
func TestKindsApart(t *testing.T) {
	b := fresh()
	take := func(want api.Errno, kind uint8, n int) {
		t.Helper()
		b.want(t, want, sent(kind, id(2, 1), me, n), me)
	}
	take(api.OK, beat, 5)
	take(api.OK, reply, 5)
	take(api.ErrTwice, beat, 5)
	take(api.ErrTwice, reply, 5)
	take(api.OK, reply, 9)
	take(api.OK, beat, 6)
	take(api.ErrTwice, reply, 7)
	take(api.OK, beat, 7)
	take(api.ErrTwice, reply, 9)
	for k := range 256 {
		if kind := uint8(k); kind != beat && kind != reply {
			take(api.OK, kind, 100)
			take(api.OK, kind, 100)
			take(api.OK, kind, 0)
			take(api.OK, kind, -1)
		}
	}
	take(api.ErrTwice, beat, 7)
	take(api.ErrTwice, reply, 9)
	take(api.OK, beat, 8)
	take(api.OK, reply, 10)
	b.lookAtAll(t)
}

// P12.1: of a newer life nothing was accepted before: neither a Beat nor a Reply, whatever its first frame is.
func TestNewerLife(t *testing.T) {
	for _, first := range []uint8{ask, status, gossip, beat, reply, 7, 8, 0, 255} {
		for _, inc := range []int{8, 9, 1000, mostInc} {
			b := fresh()
			take := func(want api.Errno, kind uint8, inc, n int) {
				t.Helper()
				b.want(t, want, sent(kind, id(2, inc), me, n), me)
			}
			take(api.OK, beat, 7, 500)
			take(api.OK, reply, 7, 600)
			take(api.OK, first, inc, 1)
			b.lookAtAll(t)
			for _, kind := range []uint8{beat, reply} {
				if kind != first {
					take(api.OK, kind, inc, 1)
				}
				take(api.ErrTwice, kind, inc, 1)
				take(api.OK, kind, inc, 2)
				take(api.ErrOld, kind, 7, 1000)
			}
			b.lookAtAll(t)
		}
	}
}
