package link_test

import (
	"math"
	"slices"
	"testing"

	"covey/api"
	"covey/link"
)

// A model of links: it keeps all that was ever accepted or fenced, and works out anew each time what the chapter says of that.

const (
	mostInc    = 1048576
	mostNumber = 1099511627776
)

// The Kinds of which the tests speak, as the numbers that they are.
const (
	ask    = 1
	status = 3
	gossip = 4
	beat   = 5
	reply  = 6
)

// me is for whom most frames of the tests are.
var me = id(1, 1)

func id(addr, inc int) api.ID { return api.ID{Addr: addr, Inc: inc} }

// peers are lives of all other addresses.
func peers() []api.ID {
	var l []api.ID
	for addr := 2; addr <= 12; addr++ {
		l = append(l, id(addr, 5))
	}
	return l
}

// sent is a frame of a Kind, with a number.
func sent(kind uint8, from, to api.ID, n int) api.Frame {
	return api.Frame{Kind: kind, From: from, To: to, N: n}
}

type model struct {
	accepted []api.Frame
	fenced   []api.ID
}

// newest is the newest incarnation from which something was accepted.
func (m model) newest(addr int) int {
	inc := 0
	for _, f := range m.accepted {
		if f.From.Addr == addr && f.From.Inc > inc {
			inc = f.From.Inc
		}
	}
	return inc
}

// bound is the incarnation up to which an address is fenced.
func (m model) bound(addr int) int {
	inc := 0
	for _, x := range m.fenced {
		if x.Addr == addr && x.Inc > inc {
			inc = x.Inc
		}
	}
	return inc
}

// greatest is the greatest N of a Kind that was accepted from the newest life of an address, 0 of none.
func (m model) greatest(kind uint8, addr int) int {
	n, is := 0, false
	newest := id(addr, m.newest(addr))
	for _, f := range m.accepted {
		if f.Kind == kind && f.From == newest && (!is || f.N > n) {
			n, is = f.N, true
		}
	}
	return n
}

func valid(x api.ID) bool {
	return x.Addr >= 1 && x.Addr <= 12 && x.Inc >= 1 && x.Inc <= mostInc
}

// check is what is wrong with a frame for me.
func (m model) check(f api.Frame, me api.ID) api.Errno {
	if !valid(f.From) || f.To.Addr != me.Addr || f.From.Addr == me.Addr {
		return 4
	}
	newest := m.newest(f.From.Addr)
	if (f.To.Inc != 0 && f.To.Inc != me.Inc) || f.From.Inc < newest {
		return 42
	}
	if f.From.Inc <= m.bound(f.From.Addr) {
		return 7
	}
	if (f.Kind == beat || f.Kind == reply) && f.From.Inc == newest && f.N <= m.greatest(f.Kind, f.From.Addr) {
		return 6
	}
	return 0
}

// both are links, and a model that is told the same.
type both struct {
	links *link.Links
	model model
}

func fresh() *both { return &both{links: link.New()} }

// apart is a copy of both.
func (b *both) apart() *both {
	return &both{b.links.Copy(), model{slices.Clone(b.model.accepted), slices.Clone(b.model.fenced)}}
}

// take tells both of a frame, and returns what the links answered.
func (b *both) take(t *testing.T, f api.Frame, me api.ID) api.Errno {
	t.Helper()
	want := b.model.check(f, me)
	if want == api.OK {
		b.model.accepted = append(b.model.accepted, f)
	}
	got := b.links.Take(f, me)
	if got != want {
		t.Fatalf("Take(Kind %d, N %d, from %v, to %v) for %v: error %d, not %d, after %v, fenced %v", f.Kind, f.N, f.From, f.To, me, int(got), int(want), b.model.accepted, b.model.fenced)
	}
	return got
}

// fence tells both of an ID to fence, and returns what the links answered.
func (b *both) fence(t *testing.T, x api.ID) api.Errno {
	t.Helper()
	var want api.Errno
	if valid(x) {
		b.model.fenced = append(b.model.fenced, x)
	} else {
		want = 4
	}
	got := b.links.Fence(x)
	if got != want {
		t.Fatalf("Fence(%v): error %d, not %d", x, int(got), int(want))
	}
	return got
}

// want takes a frame, and holds what is answered against that error.
func (b *both) want(t *testing.T, want api.Errno, f api.Frame, me api.ID) {
	t.Helper()
	if got := b.take(t, f, me); got != want {
		t.Fatalf("Take(Kind %d, N %d, from %v, to %v) for %v: error %d, not %d", f.Kind, f.N, f.From, f.To, me, int(got), int(want))
	}
}

// look holds all that the links tell of these addresses and incarnations against the model, and by copies which N they accept next.
func (b *both) look(t *testing.T, addrs, incs, ns []int) {
	t.Helper()
	for _, addr := range addrs {
		if got, want := b.links.Newest(addr), b.model.newest(addr); got != want {
			t.Fatalf("Newest(%d): %d, not %d", addr, got, want)
		}
		for _, inc := range incs {
			x := id(addr, inc)
			if got, want := b.links.Fenced(x), valid(x) && inc <= b.model.bound(addr); got != want {
				t.Fatalf("Fenced(%v): %t, not %t", x, got, want)
			}
		}
		b.lookAtNumbers(t, addr, ns)
	}
}

// lookAtNumbers asks copies which N they would accept from the newest life of an address.
func (b *both) lookAtNumbers(t *testing.T, addr int, ns []int) {
	t.Helper()
	me := id(addr%12+1, 1)
	for _, kind := range []uint8{gossip, beat, reply} {
		for _, n := range ns {
			f := sent(kind, id(addr, b.model.newest(addr)), me, n)
			if got, want := b.links.Copy().Take(f, me), b.model.check(f, me); got != want {
				t.Fatalf("then Take(Kind %d, N %d, from %v): error %d, not %d", kind, n, f.From, int(got), int(want))
			}
		}
	}
}

// lookAtAll looks at all addresses, around all that the model has.
func (b *both) lookAtAll(t *testing.T) {
	t.Helper()
	addrs := append(anyNumbers(), 3, 4, 5, 6, 7, 8, 9, 10, 11)
	incs, ns := anyNumbers(), anyNumbers()
	for _, f := range b.model.accepted {
		incs = append(incs, f.From.Inc-1, f.From.Inc, f.From.Inc+1)
		ns = append(ns, f.N-1, f.N, f.N+1)
	}
	for _, x := range b.model.fenced {
		incs = append(incs, x.Inc-1, x.Inc, x.Inc+1)
	}
	slices.Sort(incs)
	slices.Sort(ns)
	b.look(t, addrs, slices.Compact(incs), slices.Compact(ns))
}

// anyNumbers are the limits, what is beside them, and the ends of all numbers.
func anyNumbers() []int {
	return []int{math.MinInt, -mostNumber, -1, 0, 1, 2, 12, 13, mostInc, mostInc + 1, mostNumber, mostNumber + 1, math.MaxInt}
}

// anyIDs are IDs, most of them invalid, of all pairs of these numbers.
func anyIDs() []api.ID {
	var l []api.ID
	for _, addr := range anyNumbers() {
		for _, inc := range anyNumbers() {
			l = append(l, id(addr, inc))
		}
	}
	return l
}

// draw draws numbers from a fixed sequence.
type draw uint64

func (d *draw) below(n int) int {
	*d = *d*6364136223846793005 + 1442695040888963407
	return int(uint64(*d)>>20) % n
}

// pick draws one thing of a list.
func pick[T any](d *draw, of ...T) T { return of[d.below(len(of))] }
