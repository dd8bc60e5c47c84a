package link_test

import (
	"testing"

	"covey/api"
)

// P12.1: an address is fenced up to an incarnation, ahead of its first frame or behind it.
func TestFence(t *testing.T) {
	for _, x := range peers() {
		for _, ahead := range []bool{true, false} {
			b := fresh()
			from := func(inc int) api.ID { return id(x.Addr, inc) }
			if !ahead {
				b.want(t, api.OK, sent(beat, from(3), me, 5), me)
			}
			if e := b.fence(t, from(5)); e != api.OK {
				t.Errorf("Fence(%v): error %d", from(5), int(e))
			}
			b.lookAtAll(t)
			for inc, want := range map[int]bool{1: true, 4: true, 5: true, 6: false, mostInc: false} {
				if got := b.links.Fenced(from(inc)); got != want {
					t.Errorf("Fenced(%v): %t, not %t", from(inc), got, want)
				}
			}
			for _, kind := range []uint8{ask, status, gossip, beat, reply, 7, 8, 255} {
				for _, inc := range []int{3, 4, 5} {
					b.want(t, api.ErrState, sent(kind, from(inc), me, 9), me)
				}
			}
			b.lookAtAll(t)
			b.want(t, api.OK, sent(beat, from(6), me, 5), me)
			b.want(t, api.ErrTwice, sent(beat, from(6), me, 5), me)
			b.want(t, api.ErrOld, sent(beat, from(5), me, 5), me)
			b.lookAtAll(t)
		}
	}
}

// P12.1: a fence changes neither the newest incarnation nor what was accepted from it.
func TestFenceAlone(t *testing.T) {
	b := fresh()
	b.want(t, api.OK, sent(beat, id(2, 3), me, 5), me)
	b.want(t, api.OK, sent(reply, id(2, 3), me, 6), me)
	b.fence(t, id(2, 2))
	if b.links.Newest(2) != 3 {
		t.Errorf("Newest(2), fenced up to 2: %d", b.links.Newest(2))
	}
	b.want(t, api.ErrOld, sent(gossip, id(2, 2), me, 0), me)
	b.want(t, api.ErrTwice, sent(beat, id(2, 3), me, 5), me)
	b.want(t, api.ErrTwice, sent(reply, id(2, 3), me, 6), me)
	b.want(t, api.OK, sent(beat, id(2, 3), me, 6), me)
	b.fence(t, id(2, mostInc))
	if b.links.Newest(2) != 3 {
		t.Errorf("Newest(2), fenced: %d", b.links.Newest(2))
	}
	b.want(t, api.ErrOld, sent(gossip, id(2, 2), me, 0), me)
	b.want(t, api.ErrState, sent(gossip, id(2, 3), me, 0), me)
	b.want(t, api.ErrState, sent(gossip, id(2, mostInc), me, 0), me)
	b.lookAtAll(t)
}

// P12.1: an address that is fenced further already stays so; fencing again, or further, is no error either.
func TestFenceLess(t *testing.T) {
	b := fresh()
	for _, inc := range []int{5, 5, 4, 1, 5, 6, 2, 6, mostInc, mostInc - 1, 1} {
		if e := b.fence(t, id(3, inc)); e != api.OK {
			t.Errorf("Fence up to %d: error %d", inc, int(e))
		}
		b.lookAtAll(t)
	}
}

// P12.3: a fence stays, whatever newer life is accepted.
func TestFenceStays(t *testing.T) {
	b := fresh()
	b.fence(t, id(2, 2))
	for _, kind := range []uint8{gossip, beat, reply} {
		inc := int(kind)
		b.want(t, api.OK, sent(kind, id(2, inc), me, 1), me)
		if !b.links.Fenced(id(2, 1)) || !b.links.Fenced(id(2, 2)) || b.links.Fenced(id(2, 3)) {
			t.Errorf("a frame of Kind %d from a newer life changed what is fenced", kind)
		}
		b.want(t, api.ErrOld, sent(gossip, id(2, 2), me, 1), me)
	}
	b.lookAtAll(t)
}

// An invalid ID is not fenced; nothing changes, and nobody at an address that is none is fenced.
func TestFenceInvalid(t *testing.T) {
	known := fresh()
	known.want(t, api.OK, sent(beat, id(2, 3), me, 5), me)
	known.fence(t, id(12, 1))
	for _, x := range anyIDs() {
		if valid(x) {
			continue
		}
		for _, b := range []*both{fresh(), known} {
			if e := b.fence(t, x); e != api.ErrForm {
				t.Errorf("Fence(%v): error %d", x, int(e))
			}
			if b.links.Fenced(x) {
				t.Errorf("Fenced(%v)", x)
			}
			b.lookAtAll(t)
		}
	}
}

// Fenced asks whether the ID is valid: below the first incarnation nobody is fenced.
func TestFencedInvalid(t *testing.T) {
	b := fresh()
	for addr := 1; addr <= 12; addr++ {
		b.fence(t, id(addr, mostInc))
	}
	for _, x := range anyIDs() {
		if got := b.links.Fenced(x); got != valid(x) {
			t.Errorf("Fenced(%v): %t", x, got)
		}
	}
	b.lookAtAll(t)
}
