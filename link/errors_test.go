package link_test

import (
	"testing"

	"covey/api"
)

// wrong is something that may be wrong with a frame, as the error that it leads to.
type wrong struct {
	error api.Errno
	bend  func(f *api.Frame)
}

// wrongs are what may be wrong with a frame for id(1, 5) from a life of address 2, in the order in which it is looked for.
func wrongs() []wrong {
	return []wrong{
		{api.ErrForm, func(f *api.Frame) { f.From.Inc = 0 }},
		{api.ErrForm, func(f *api.Frame) { f.From.Addr = 13 }},
		{api.ErrForm, func(f *api.Frame) { f.To.Addr = 3 }},
		{api.ErrForm, func(f *api.Frame) { f.From.Addr = 1 }},
		{api.ErrOld, func(f *api.Frame) { f.To.Inc = 4 }},
		{api.ErrOld, func(f *api.Frame) { f.From.Inc = min(f.From.Inc, 2) }},
	}
}

// Of all errors that apply the first one is the answer, and nothing changes: of each choice of what is wrong, from lives that are fenced, or whose N was there, or neither.
func TestErrorsInOrder(t *testing.T) {
	mine := id(1, 5)
	all := wrongs()
	for choice := range 1 << len(all) {
		for fence := range 6 {
			for _, kind := range []uint8{gossip, beat, reply} {
				for n := 6; n <= 8; n++ {
					b := fresh()
					b.want(t, api.OK, sent(beat, id(2, 3), mine, 7), mine)
					b.want(t, api.OK, sent(reply, id(2, 3), mine, 7), mine)
					if fence > 0 {
						b.fence(t, id(2, fence))
					}
					want := api.OK
					if kind != gossip && n <= 7 {
						want = api.ErrTwice
					}
					if fence >= 3 {
						want = api.ErrState
					}
					f := sent(kind, id(2, 3), mine, n)
					for i := len(all) - 1; i >= 0; i-- {
						if choice>>i&1 == 1 {
							all[i].bend(&f)
							want = all[i].error
						}
					}
					b.want(t, want, f, mine)
					b.look(t, []int{1, 2, 3, 12, 13}, []int{0, 1, 2, 3, 4, 5, 6}, []int{0, 6, 7, 8, 9})
				}
			}
		}
	}
}

// A frame that is refused changes nothing: of each error, on links that know nothing, and on such that know something.
func TestRefused(t *testing.T) {
	mine := id(1, 5)
	refused := map[api.Errno][]api.Frame{
		api.ErrForm: {
			{}, sent(gossip, api.ID{}, mine, 0), sent(beat, id(2, mostInc+1), mine, 9), sent(beat, id(0, 1), mine, 9),
			sent(beat, id(1, 6), mine, 9), sent(beat, id(2, 9), id(2, 9), 9), sent(beat, id(2, 9), api.ID{}, 9),
		},
		api.ErrOld: {
			sent(gossip, id(2, 9), id(1, 4), 0), sent(beat, id(2, 9), id(1, 6), 9), sent(beat, id(4, 9), id(1, -1), 9),
			sent(reply, id(2, 2), mine, 9), sent(ask, id(2, 1), id(1, 0), 0),
		},
		api.ErrState: {sent(ask, id(3, 4), mine, 0), sent(beat, id(3, 1), mine, 9), sent(reply, id(3, 3), id(1, 0), 9)},
		api.ErrTwice: {sent(beat, id(2, 3), mine, 7), sent(beat, id(2, 3), mine, 6), sent(reply, id(2, 3), mine, 4), sent(reply, id(2, 3), mine, 0)},
	}
	b := fresh()
	b.want(t, api.OK, sent(beat, id(2, 3), mine, 7), mine)
	b.want(t, api.OK, sent(reply, id(2, 3), mine, 4), mine)
	b.fence(t, id(3, 4))
	for want, l := range refused {
		for _, f := range l {
			b.want(t, want, f, mine)
			b.lookAtAll(t)
		}
	}
	if b.links.Newest(2) != 3 || b.links.Newest(3) != 0 || b.links.Newest(1) != 0 {
		t.Errorf("what was refused is the newest one")
	}
	none := fresh()
	for _, f := range refused[api.ErrForm] {
		none.want(t, api.ErrForm, f, mine)
		none.lookAtAll(t)
	}
}

// Any IDs at all come back with an answer: as From, as To, as me.
func TestAnyIDs(t *testing.T) {
	b := fresh()
	b.want(t, api.OK, sent(beat, id(2, 2), me, 5), me)
	b.fence(t, id(12, 12))
	l := anyIDs()
	for i, x := range l {
		for k, y := range l {
			n := anyNumbers()[(i+k)%13]
			b.apart().take(t, sent(beat, x, y, n), y)
			b.apart().take(t, sent(gossip, id(2, 2), x, n), y)
			b.apart().take(t, sent(reply, x, me, n), y)
			b.apart().take(t, sent(reply, x, id(y.Addr, 0), n), y)
		}
	}
	b.lookAtAll(t)
}

// What is told of an address that never was is 0, and false, whatever is known of others.
func TestNeverWas(t *testing.T) {
	b := fresh()
	for _, x := range peers() {
		b.want(t, api.OK, sent(beat, x, me, 5), me)
		b.fence(t, x)
	}
	for _, addr := range append(anyNumbers(), me.Addr) {
		if addr >= 1 && addr <= 12 && addr != me.Addr {
			continue
		}
		if got := b.links.Newest(addr); got != 0 {
			t.Errorf("Newest(%d): %d", addr, got)
		}
		for _, inc := range anyNumbers() {
			if b.links.Fenced(id(addr, inc)) {
				t.Errorf("Fenced(%v)", id(addr, inc))
			}
		}
	}
}
