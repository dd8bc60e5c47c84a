package link_test

import (
	"testing"

	"covey/api"
)

// P12.1: a copy knows what it was made of knows; what is done to one of them is not seen in the other one.
func TestCopy(t *testing.T) {
	for seed := range draw(40) {
		b := fresh()
		steps := run(seed, 80)
		for i, s := range steps {
			c := b.apart()
			if c.links == nil || c.links == b.links {
				t.Fatal("a copy is nil, or no other one")
			}
			b.step(t, s)
			c.lookAtSome(t)
			for _, other := range steps[i/2 : i/2+4] {
				c.step(t, other)
			}
			b.lookAtSome(t)
			c.lookAtSome(t)
			d := c.apart()
			d.step(t, s)
			c.step(t, steps[len(steps)-1-i])
			b.lookAtSome(t)
			c.lookAtSome(t)
			d.lookAtSome(t)
		}
	}
}

// P12.1: a copy of links that know nothing is independent, too, either way.
func TestCopyOfNew(t *testing.T) {
	b := fresh()
	c := b.apart()
	b.want(t, api.OK, sent(beat, id(2, 1), me, 5), me)
	c.lookAtAll(t)
	b.lookAtAll(t)
	c.fence(t, id(2, 1))
	b.lookAtAll(t)
	c.lookAtAll(t)
	d := fresh()
	d.apart().want(t, api.OK, sent(beat, id(2, 1), me, 5), me)
	d.lookAtAll(t)
}

// P12.1: each thing that is done, to a copy alone, and to what it was made of alone.
func TestCopyEachThing(t *testing.T) {
	base := func() *both {
		b := fresh()
		b.want(t, api.OK, sent(beat, id(2, 2), me, 5), me)
		b.want(t, api.OK, sent(reply, id(2, 2), me, 5), me)
		b.fence(t, id(3, 2))
		return b
	}
	for _, s := range []step{
		{sent(beat, id(2, 2), me, 6), me},
		{sent(reply, id(2, 2), me, 6), me},
		{sent(gossip, id(2, 3), me, 0), me},
		{sent(gossip, id(3, 3), me, 0), me},
		{sent(gossip, id(4, 1), me, 0), me},
		{frame: api.Frame{From: id(2, 1)}},
		{frame: api.Frame{From: id(2, 9)}},
		{frame: api.Frame{From: id(3, 9)}},
		{frame: api.Frame{From: id(4, 9)}},
	} {
		b := base()
		c := b.apart()
		c.step(t, s)
		b.lookAtAll(t)
		c.lookAtAll(t)
		b = base()
		c = b.apart()
		b.step(t, s)
		b.lookAtAll(t)
		c.lookAtAll(t)
	}
}

// step does a step on both.
func (b *both) step(t *testing.T, s step) {
	t.Helper()
	if s.frame.Kind == 0 {
		b.fence(t, s.frame.From)
		return
	}
	b.take(t, s.frame, s.mine)
}

// lookAtSome looks at the addresses and numbers of drawn runs.
func (b *both) lookAtSome(t *testing.T) {
	t.Helper()
	b.look(t, []int{1, 2, 3, 5, 12}, []int{0, 1, 2, 3, 4, 5, 6, 7, 8, 9}, []int{-1, 0, 1, 3, 5, 7, 9, 11, 12})
}
