package outbox_test

import (
	"testing"

	"covey/api"
	"covey/outbox"
)

// P13.2: a copy has what the box has, in as much room; what is done to one of them is not seen in the other one.
func TestCopy(t *testing.T) {
	for seed := range draw(40) {
		b := fresh(t, int(seed)%6+1)
		for n := range 60 {
			c := b.apart()
			if c.box == nil || c.box == b.box {
				t.Fatal("a copy is nil, or no other one")
			}
			c.look(t)
			for k := range 4 {
				c.change(t, &seed, 1000*n+k)
				b.look(t)
				c.look(t)
			}
			d := c.apart()
			b.change(t, &seed, 500000+n)
			c.change(t, &seed, 600000+n)
			b.look(t)
			c.look(t)
			d.look(t)
			c.drain(t)
			b.look(t)
			d.drain(t)
		}
	}
}

// change does something to both.
func (b *both) change(t *testing.T, d *draw, n int) {
	t.Helper()
	switch d.below(12) {
	case 0:
		b.clear()
	case 1, 2, 3:
		b.take(t)
	default:
		b.put(t, full(d.kind(), n))
	}
}

// P13.2: each thing that is done, to a copy alone, and to what it was made of alone, of boxes that are new, were emptied, have room, or are full, and of which some were taken.
func TestCopyEachThing(t *testing.T) {
	things := []func(b *both){
		func(b *both) { b.take(t) },
		func(b *both) { b.clear() },
		func(b *both) { b.put(t, full(beat, 71)) },
		func(b *both) { b.put(t, full(gossip, 72)) },
		func(b *both) { b.put(t, full(beat, 73)); b.put(t, full(beat, 74)); b.put(t, full(status, 75)) },
		func(b *both) { b.take(t); b.put(t, full(beat, 76)); b.put(t, full(beat, 77)) },
		func(b *both) { b.clear(); b.put(t, full(beat, 78)) },
	}
	bases := []func() *both{
		func() *both { return fresh(t, 1) },
		func() *both { return fresh(t, 3) },
		func() *both { b := filled(t, 2, beat, gossip); b.clear(); return b },
		func() *both { b := filled(t, 2, beat, gossip); b.drain(t); return b },
		func() *both { return filled(t, 1, gossip) },
		func() *both { return filled(t, 3, beat, status) },
		func() *both { return filled(t, 3, beat, status, reply) },
		func() *both { return filled(t, 3, gossip, status, beat) },
		func() *both { return filled(t, 3, beat, reply, 7) },
		func() *both { b := filled(t, 4, beat, reply, 7, status, beat); b.take(t); b.take(t); return b },
		func() *both { return filled(t, 4, gossip, status, gossip, status, gossip, status) },
	}
	for _, base := range bases {
		for _, do := range things {
			for _, other := range things {
				b := base()
				c := b.apart()
				do(c)
				b.look(t)
				other(b)
				c.look(t)
				b.look(t)
				do(b)
				other(c)
				b.drain(t)
				c.drain(t)
			}
		}
	}
}

// P13.2: no more may wait in a copy than in the box, and no fewer.
func TestCopyRoom(t *testing.T) {
	for _, max := range []int{1, 2, 5, 100, mostTime} {
		b, _ := outbox.New(max)
		b.Put(light(beat, 1))
		c := b.Copy()
		for n := 2; n <= max; n++ {
			if out, lost, e := c.Put(light(beat, n)); lost || e != api.OK {
				t.Fatalf("of a copy with max %d: %v is lost, error %d", max, out, int(e))
			}
		}
		if out, lost, _ := c.Put(light(gossip, 5000)); !lost || out.N != 5000 || c.Len() != max || b.Len() != 1 {
			t.Errorf("of a copy with max %d: %v, %t, %d wait", max, out, lost, c.Len())
		}
	}
}
