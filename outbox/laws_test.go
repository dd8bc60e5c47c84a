package outbox_test

import (
	"slices"
	"testing"

	"covey/api"
)

// P13.1, P13.2: all runs of a few steps, held against the model, each on a copy of the one before it.
func TestAllShortRuns(t *testing.T) {
	var deeper func(b *both, n, left int)
	deeper = func(b *both, n, left int) {
		b.look(t)
		if left == 0 {
			return
		}
		for _, kind := range []uint8{beat, status, gossip} {
			next := b.apart()
			next.put(t, light(kind, n))
			deeper(next, n+1, left-1)
		}
		next := b.apart()
		next.take(t)
		deeper(next, n, left-1)
		next = b.apart()
		next.clear()
		deeper(next, n, left-1)
		b.look(t)
	}
	for max := 1; max <= 4; max++ {
		deeper(fresh(t, max), 1, 6)
	}
}

// P13.1, P13.2: drawn runs with whole frames of all Kinds, held against the model in each of their steps.
func TestRuns(t *testing.T) {
	for seed := range draw(60) {
		b := fresh(t, int(seed)%9+1)
		for n := range 200 {
			switch seed.below(10) {
			case 0, 1, 2:
				b.take(t)
			case 3:
				if seed.below(9) == 0 {
					b.clear()
				}
			default:
				b.put(t, pick(&seed, frames(seed.kind(), n)...))
			}
			b.look(t)
		}
		b.drain(t)
	}
}

// kind draws a Kind; half of all are replaceable.
func (d *draw) kind() uint8 {
	return pick(d, 1, 2, beat, reply, 7, uint8(d.below(256)), status, status, status, gossip, gossip, gossip)
}

// trace is a drawn run on a box, in which each frame has a number of its own, with what became of each.
type trace struct {
	put, lost, taken []int
	replaceable      map[int]bool
}

// run draws a run of puts, in which Take occurs so many times of ten, and asks what holds of each Put: of those that waited ahead of it, and of the trace so far.
func run(t *testing.T, b *both, seed draw, takes int, kind func(d *draw) uint8, holds func(r *trace, ahead []int, n int, out api.Frame, lost bool)) *trace {
	t.Helper()
	r := &trace{replaceable: map[int]bool{}}
	for n := 1; n <= 200; n++ {
		for seed.below(10) < takes {
			if f, is := b.box.Take(); is {
				r.taken = append(r.taken, f.N)
			}
		}
		f := light(kind(&seed), n)
		r.replaceable[n] = replaceable(f.Kind)
		ahead := numbers(b.box.All())
		out, lost, e := b.box.Put(f)
		if e != api.OK {
			t.Fatalf("Put: error %d", int(e))
		}
		r.put = append(r.put, n)
		if lost {
			r.lost = append(r.lost, out.N)
		}
		holds(r, ahead, n, out, lost)
	}
	return r
}

// P13.3: frames are taken in the order in which they were put, each once.
func TestOrder(t *testing.T) {
	for seed := range draw(200) {
		b := fresh(t, int(seed)%11+1)
		r := run(t, b, seed, 4, (*draw).kind, func(r *trace, _ []int, _ int, _ api.Frame, _ bool) {})
		for {
			f, is := b.box.Take()
			if !is {
				break
			}
			r.taken = append(r.taken, f.N)
		}
		for i, n := range r.taken {
			if i > 0 && n <= r.taken[i-1] || n < 1 || n > 200 {
				t.Fatalf("taken: %v", r.taken)
			}
			if slices.Contains(r.lost, n) {
				t.Fatalf("%d is taken, though it was lost", n)
			}
		}
		if len(r.taken) < 30 {
			t.Fatalf("only %d are taken", len(r.taken))
		}
	}
}

// P13.4: never more than max wait; who is lost was put; those put are those lost, taken and waiting, each once.
func TestBounded(t *testing.T) {
	for seed := range draw(200) {
		max := int(seed)%11 + 1
		b := fresh(t, max)
		r := run(t, b, seed, int(seed)%5, (*draw).kind, func(r *trace, ahead []int, n int, out api.Frame, lost bool) {
			if b.box.Len() > max || len(b.box.All()) != b.box.Len() {
				t.Fatalf("of at most %d %d wait: %v", max, b.box.Len(), b.box.All())
			}
			if lost && out.N != n && !slices.Contains(ahead, out.N) {
				t.Fatalf("%v is lost, of %v and %d", out, ahead, n)
			}
			if !lost && !equal(out, api.Frame{}) {
				t.Fatalf("none is lost, but %v", out)
			}
			if len(r.put) != len(r.lost)+len(r.taken)+b.box.Len() {
				t.Fatalf("%d put, but %d lost, %d taken, %d waiting", len(r.put), len(r.lost), len(r.taken), b.box.Len())
			}
		})
		ends := slices.Concat(r.lost, r.taken, numbers(b.box.All()))
		slices.Sort(ends)
		if !slices.Equal(ends, r.put) {
			t.Fatalf("put: %v; lost, taken or waiting: %v", r.put, ends)
		}
	}
}

// P13.5: none is lost as long as fewer than max wait, and one as soon as as many do; one that is not replaceable only if none of those waiting is, and it is the new one.
func TestWhatStays(t *testing.T) {
	kept := 0
	for seed := range draw(200) {
		max := int(seed)%11 + 1
		b := fresh(t, max)
		run(t, b, seed, int(seed)%4, (*draw).kind, func(r *trace, ahead []int, n int, out api.Frame, lost bool) {
			if lost != (len(ahead) == max) {
				t.Fatalf("of at most %d, with %v waiting: lost %t", max, ahead, lost)
			}
			if lost && !r.replaceable[out.N] {
				kept++
				if out.N != n || slices.ContainsFunc(ahead, func(n int) bool { return r.replaceable[n] }) {
					t.Fatalf("%v is lost, of %v and %d", out, ahead, n)
				}
			}
		})
	}
	if kept < 500 {
		t.Errorf("only %d that are not replaceable were lost", kept)
	}
}

// P13.6: of replaceable frames alone those wait that are not taken of the last max that were put.
func TestLastOnes(t *testing.T) {
	for seed := range draw(200) {
		max := int(seed)%11 + 1
		b := fresh(t, max)
		kind := func(d *draw) uint8 { return pick(d, uint8(status), gossip) }
		run(t, b, seed, int(seed)%6, kind, func(r *trace, _ []int, n int, _ api.Frame, _ bool) {
			var want []int
			for _, n := range r.put[len(r.put)-min(max, len(r.put)):] {
				if !slices.Contains(r.taken, n) {
					want = append(want, n)
				}
			}
			if got := numbers(b.box.All()); !slices.Equal(got, want) {
				t.Fatalf("of at most %d wait %v, not %v", max, got, want)
			}
		})
	}
}
