package outbox_test

import (
	"math"
	"testing"

	"covey/api"
	"covey/outbox"
)

// The chapter's example.
func TestExample(t *testing.T) {
	b, e := outbox.New(2)
	if e != api.OK {
		t.Fatalf("New: error %d", int(e))
	}
	for _, c := range []struct {
		kind      uint8
		n, lostAs int
	}{{api.Gossip, 1, 0}, {api.Beat, 2, 0}, {api.Beat, 3, 1}, {api.Beat, 4, 4}} {
		out, lost, e := b.Put(api.Frame{Kind: c.kind, N: c.n})
		if e != api.OK || lost != (c.lostAs > 0) || out.N != c.lostAs {
			t.Errorf("Put of %d: %v, %t, error %d", c.n, out, lost, int(e))
		}
	}
	if f, is := b.Take(); !is || f.Kind != api.Beat || f.N != 2 {
		t.Errorf("Take: %v, %t", f, is)
	}
	if f, is := b.Take(); !is || f.Kind != api.Beat || f.N != 3 {
		t.Errorf("Take after that: %v, %t", f, is)
	}
	if f, is := b.Take(); is {
		t.Errorf("Take of none: %v", f)
	}
}

// P13.1: a new box is empty, and so many frames may wait in it, and no more.
func TestNew(t *testing.T) {
	for _, max := range []int{1, 2, 3, 7, 64, 4095, mostTime} {
		b, e := outbox.New(max)
		if b == nil || e != api.OK {
			t.Fatalf("New(%d): %v, error %d", max, b, int(e))
		}
		if l := b.All(); b.Len() != 0 || len(l) != 0 {
			t.Errorf("New(%d) has %v", max, l)
		}
		if f, is := b.Take(); is || !equal(f, api.Frame{}) {
			t.Errorf("Take, of a new box: %v, %t", f, is)
		}
		for n := 1; n <= max; n++ {
			if out, lost, e := b.Put(light(beat, n)); lost || !equal(out, api.Frame{}) || e != api.OK || b.Len() != n {
				t.Fatalf("of at most %d frames, Put of number %d: %v, %t, error %d", max, n, out, lost, int(e))
			}
		}
		if out, lost, e := b.Put(light(beat, max+1)); !lost || out.N != max+1 || e != api.OK || b.Len() != max {
			t.Errorf("more than %d frames: %v, %t, error %d", max, out, lost, int(e))
		}
	}
}

// A number that max may not be: ErrArg, and no box.
func TestNewWrong(t *testing.T) {
	for _, max := range []int{0, -1, -2, -mostTime, mostTime + 1, mostTime * 2, 1 << 32, 1<<32 + 1, math.MinInt, math.MaxInt} {
		if b, e := outbox.New(max); b != nil || e != api.ErrArg {
			t.Errorf("New(%d): %v, error %d", max, b, int(e))
		}
	}
}

// P13.1: a frame of each Kind, and of none, of each form, is put and taken in turn, as it was.
func TestEachKind(t *testing.T) {
	for k := range 256 {
		for _, max := range []int{1, 2, 9} {
			b := fresh(t, max)
			for n, f := range frames(uint8(k), 3*k+1) {
				b.put(t, f)
				b.look(t)
				if n%max == max-1 {
					b.drain(t)
				}
			}
			b.drain(t)
		}
	}
}

// P13.1, P13.3: frames of all Kinds wait together, and are taken in the order in which they were put.
func TestAllKinds(t *testing.T) {
	b := fresh(t, 256*2)
	for k := range 256 {
		b.put(t, full(uint8(k), k))
		b.put(t, full(uint8(255-k), 1000+k))
	}
	b.look(t)
	for k := range 256 {
		for _, want := range []api.Frame{full(uint8(k), k), full(uint8(255-k), 1000+k)} {
			if f, is := b.take(t); !is || !equal(f, want) {
				t.Fatalf("Take: %v, %t, not %v", f, is, want)
			}
		}
		if b.box.Len() != 510-2*k {
			t.Fatalf("Len: %d", b.box.Len())
		}
	}
	b.drain(t)
}

// P13.1: a box that was emptied, by Take or by Clear, is like a new one.
func TestUsedAgain(t *testing.T) {
	empty := map[string]func(b *both){
		"Take":             func(b *both) { b.drain(t) },
		"Clear":            func(b *both) { b.clear() },
		"Take, then Clear": func(b *both) { b.take(t); b.clear() },
		"Clear, twice":     func(b *both) { b.clear(); b.clear() },
		"none, then Clear": func(b *both) { b.drain(t); b.clear() },
	}
	for name, empty := range empty {
		for _, max := range []int{1, 2, 3, 8} {
			b := fresh(t, max)
			for round := range 4 {
				for n := range max + round {
					b.put(t, full(pick(new(draw(n+round)), uint8(gossip), status, beat, reply), n))
				}
				empty(b)
				b.look(t)
				if f, is := b.take(t); is || b.box.Len() != 0 || len(b.box.All()) != 0 {
					t.Fatalf("emptied by %s, it has %v, and %v", name, f, b.box.All())
				}
			}
			for n := 1; n <= max; n++ {
				if _, lost := b.put(t, light(beat, n)); lost {
					t.Fatalf("emptied by %s, only %d of %d may wait", name, n-1, max)
				}
			}
			if f, lost := b.put(t, light(gossip, 99)); !lost || f.N != 99 {
				t.Fatalf("emptied by %s, more than %d wait", name, max)
			}
			b.drain(t)
		}
	}
}

// Of nil: ErrNil, nothing else; none, false, 0, nil; nothing is done.
func TestNil(t *testing.T) {
	var b *outbox.Box
	for k := range 256 {
		for _, f := range frames(uint8(k), k) {
			if out, lost, e := b.Put(f); !equal(out, api.Frame{}) || lost || e != api.ErrNil {
				t.Errorf("Put of nil: %v, %t, error %d", out, lost, int(e))
			}
		}
	}
	if f, is := b.Take(); !equal(f, api.Frame{}) || is {
		t.Errorf("Take of nil: %v, %t", f, is)
	}
	if n := b.Len(); n != 0 {
		t.Errorf("Len of nil: %d", n)
	}
	if l := b.All(); len(l) != 0 {
		t.Errorf("All of nil: %v", l)
	}
	b.Clear()
	if c := b.Copy(); c != nil {
		t.Errorf("Copy of nil: %v", c)
	}
}

// A box that New did not make, but that is not nil either, comes back: none may wait in it.
func TestZero(t *testing.T) {
	for _, b := range []*outbox.Box{{}, (&outbox.Box{}).Copy()} {
		for _, kind := range []uint8{gossip, beat} {
			f := full(kind, 3)
			if out, lost, e := b.Put(f); !equal(out, f) || !lost || e != api.OK {
				t.Errorf("Put: %v, %t, error %d", out, lost, int(e))
			}
		}
		b.Clear()
		if f, is := b.Take(); is || b.Len() != 0 || len(b.All()) != 0 {
			t.Errorf("it has %v", f)
		}
	}
}
