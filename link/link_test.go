package link_test

import (
	"testing"

	"covey/api"
	"covey/link"
)

// The chapter's examples.
func TestExamples(t *testing.T) {
	l, me := link.New(), id(1, 1)
	take := func(want api.Errno, from api.ID, n int) {
		t.Helper()
		if got := l.Take(api.Frame{Kind: api.Beat, From: from, To: me, N: n}, me); got != want {
			t.Errorf("a Beat %d from %v: error %d, not %d", n, from, int(got), int(want))
		}
	}
	take(api.OK, id(2, 1), 5)
	take(api.ErrTwice, id(2, 1), 5)
	take(api.OK, id(2, 2), 1)
	take(api.ErrOld, id(2, 1), 6)
	if e := l.Fence(id(2, 2)); e != api.OK {
		t.Errorf("Fence: error %d", int(e))
	}
	take(api.ErrState, id(2, 2), 2)
	take(api.OK, id(2, 3), 1)
}

// P12.1: new links know nothing: nobody's newest incarnation, nobody who is fenced, no N.
func TestNew(t *testing.T) {
	b := fresh()
	if b.links == nil {
		t.Fatal("New: nil")
	}
	b.lookAtAll(t)
	for addr := 1; addr <= 12; addr++ {
		for _, inc := range []int{1, 2, 1000, mostInc} {
			if b.links.Newest(addr) != 0 || b.links.Fenced(id(addr, inc)) {
				t.Errorf("new links know something of %v", id(addr, inc))
			}
		}
	}
	b.want(t, 0, sent(beat, id(2, 3), me, 4), me)
	b.fence(t, id(3, 3))
	other := fresh()
	other.lookAtAll(t)
	if other.links.Newest(2) != 0 || other.links.Fenced(id(3, 1)) {
		t.Errorf("new links know what others were told")
	}
}

// P12.1: a frame of each Kind is accepted, from each address, from the same life and from newer ones; a Beat or a Reply only if its N is greater.
func TestEachKind(t *testing.T) {
	for k := range 256 {
		kind := uint8(k)
		again := api.OK
		if kind == beat || kind == reply {
			again = api.ErrTwice
		}
		b := fresh()
		for _, x := range peers() {
			for _, inc := range []int{1, 2, 30, mostInc} {
				f := sent(kind, id(x.Addr, inc), me, 6)
				b.want(t, api.OK, f, me)
				b.want(t, again, f, me)
				f.N = 5
				b.want(t, again, f, me)
				f.N = 7
				b.want(t, api.OK, f, me)
				f.N = 6
				b.want(t, again, f, me)
				if newest := b.links.Newest(x.Addr); newest != inc {
					t.Errorf("Newest(%d): %d, not %d", x.Addr, newest, inc)
				}
			}
		}
		b.lookAtAll(t)
	}
}

// P12.1: from an older life nothing is accepted, of whatever Kind it is, and however great its N is.
func TestOlder(t *testing.T) {
	for k := range 256 {
		for _, x := range peers() {
			b := fresh()
			b.want(t, api.OK, sent(uint8(k), id(x.Addr, 30), me, 1), me)
			for _, inc := range []int{1, 2, 28, 29} {
				b.want(t, api.ErrOld, sent(uint8(k), id(x.Addr, inc), me, 2), me)
				b.want(t, api.ErrOld, sent(beat, id(x.Addr, inc), me, mostNumber), me)
			}
			b.want(t, api.OK, sent(uint8(k), id(x.Addr, 30), me, 2), me)
			b.want(t, api.OK, sent(uint8(k), id(x.Addr, 31), me, 0), me)
			b.want(t, api.ErrOld, sent(uint8(k), id(x.Addr, 30), me, 3), me)
		}
	}
}

// P12.1: a frame is for me if it is to my address, and to my incarnation or to whoever is there.
func TestTo(t *testing.T) {
	for _, x := range []api.ID{id(1, 1), id(4, 7), id(12, mostInc)} {
		from := id(x.Addr%12+1, 3)
		for n, to := range map[int]api.ID{1: id(x.Addr, 0), 2: x} {
			b := fresh()
			b.want(t, api.OK, sent(gossip, from, to, 0), x)
			b.want(t, api.OK, sent(beat, from, to, n), x)
			b.lookAtAll(t)
		}
		for _, inc := range []int{x.Inc + 1, x.Inc - 1, x.Inc + 2, -x.Inc, -1, mostInc + 1} {
			if inc == 0 {
				continue
			}
			b := fresh()
			b.want(t, api.ErrOld, sent(gossip, from, id(x.Addr, inc), 0), x)
			b.lookAtAll(t)
		}
		for _, addr := range []int{x.Addr + 1, x.Addr - 1, from.Addr, 0, -x.Addr, 13} {
			for _, inc := range []int{0, x.Inc, x.Inc + 1} {
				b := fresh()
				b.want(t, api.ErrForm, sent(gossip, from, id(addr, inc), 0), x)
				b.lookAtAll(t)
			}
		}
	}
}

// P12.1: nothing is accepted from my own address: no older life, not me, no newer life.
func TestFromMyself(t *testing.T) {
	for _, x := range []api.ID{id(1, 2), id(5, 70), id(12, mostInc-1)} {
		b := fresh()
		for _, inc := range []int{1, x.Inc - 1, x.Inc, x.Inc + 1, mostInc} {
			for _, to := range []api.ID{x, id(x.Addr, 0), id(x.Addr, x.Inc+1)} {
				b.want(t, api.ErrForm, sent(gossip, id(x.Addr, inc), to, 0), x)
				b.want(t, api.ErrForm, sent(beat, id(x.Addr, inc), to, 1), x)
			}
		}
		b.lookAtAll(t)
	}
}

// P12.1: who I am is asked anew with each frame; what was accepted counts for each of us.
func TestOtherMe(t *testing.T) {
	b := fresh()
	b.want(t, api.OK, sent(beat, id(2, 3), id(1, 1), 5), id(1, 1))
	b.want(t, api.ErrOld, sent(beat, id(2, 3), id(1, 1), 6), id(1, 2))
	b.want(t, api.ErrTwice, sent(beat, id(2, 3), id(1, 2), 5), id(1, 2))
	b.want(t, api.ErrTwice, sent(beat, id(2, 3), id(4, 1), 5), id(4, 1))
	b.want(t, api.OK, sent(beat, id(2, 3), id(4, 1), 6), id(4, 1))
	b.want(t, api.ErrForm, sent(beat, id(2, 3), id(2, 3), 7), id(2, 3))
	b.want(t, api.OK, sent(beat, id(1, 1), id(2, 3), 7), id(2, 3))
	b.lookAtAll(t)
}

// P12.1: links that New did not make, but that are not nil either, know nothing, too.
func TestZero(t *testing.T) {
	b := &both{links: &link.Links{}}
	b.lookAtAll(t)
	b.want(t, api.ErrForm, sent(beat, me, me, 1), me)
	b.apart().fence(t, id(2, 2))
	b.lookAtAll(t)
	b.want(t, api.OK, sent(beat, id(2, 2), me, 1), me)
	b.fence(t, id(3, 2))
	b.lookAtAll(t)
}

// Of nil: ErrNil, whatever it is given; nothing is known; its copy is nil.
func TestNil(t *testing.T) {
	var l *link.Links
	for _, x := range anyIDs() {
		for _, f := range []api.Frame{{}, sent(beat, id(2, 1), x, 1), sent(gossip, x, me, 0), sent(ask, x, x, -1)} {
			if e := l.Take(f, me); e != api.ErrNil {
				t.Errorf("Take of nil: error %d", int(e))
			}
			if e := l.Take(f, x); e != api.ErrNil {
				t.Errorf("Take of nil for %v: error %d", x, int(e))
			}
		}
		if e := l.Fence(x); e != api.ErrNil {
			t.Errorf("Fence(%v) of nil: error %d", x, int(e))
		}
		if l.Fenced(x) {
			t.Errorf("Fenced(%v) of nil", x)
		}
		if got := l.Newest(x.Addr); got != 0 {
			t.Errorf("Newest(%d) of nil: %d", x.Addr, got)
		}
	}
	if l.Copy() != nil {
		t.Errorf("the copy of nil is not nil")
	}
}

// A frame is only looked at: none of its fields counts but Kind, From, To and N, and its view stays as it is, and is not kept.
func TestOtherFields(t *testing.T) {
	full := api.View{
		Members: []api.Member{{ID: id(2, 1), Status: api.Down, No: 3}, {ID: id(9, 9), Status: api.Removed}},
		Floors:  []api.ID{id(2, 7)},
		Rows:    []api.Row{{Of: id(2, 1), Version: 4, Not: []api.ID{me}}},
		Clock:   []api.Tick{{Of: id(2, 1), N: 5}},
		Seen:    []api.ID{id(2, 1), me},
	}
	b := fresh()
	for n, f := range []api.Frame{
		{Kind: gossip, View: full},
		{Kind: beat, View: full},
		{Kind: 7, About: me},
		{Kind: 7, About: id(2, 1)},
		{Kind: 8, About: id(-1, 0), Token: -7},
		{Kind: reply, Token: mostNumber, About: id(2, 9), View: full},
	} {
		f.From, f.To, f.N = id(2, 1), me, n+1
		b.want(t, api.OK, f, me)
	}
	b.lookAtAll(t)
	for _, kept := range []bool{
		full.Members[0] == api.Member{ID: id(2, 1), Status: api.Down, No: 3},
		full.Members[1] == api.Member{ID: id(9, 9), Status: api.Removed},
		full.Floors[0] == id(2, 7),
		full.Rows[0].Of == id(2, 1) && full.Rows[0].Version == 4 && full.Rows[0].Not[0] == me,
		full.Clock[0] == api.Tick{Of: id(2, 1), N: 5},
		full.Seen[0] == id(2, 1) && full.Seen[1] == me,
	} {
		if !kept {
			t.Errorf("the view of a frame became %v", full)
		}
	}
	full.Floors[0], full.Members[0].ID = id(2, 9), id(3, 3)
	b.lookAtAll(t)
}
