package link_test

import (
	"testing"

	"covey/api"
	"covey/link"
)

// step is a call that may change links: a frame that is taken for mine, or, of Kind 0, its From that is fenced.
type step struct {
	frame api.Frame
	mine  api.ID
}

// drawn draws a step, of a life about the given one. Most frames are valid, and for whom they are taken.
func (d *draw) drawn(inc int) step {
	from := id(pick(d, 2, 3, 3, 5, 12), max(1, inc+pick(d, -1, 0, 0, 0, 0, 0, 1)))
	switch d.below(15) {
	case 0:
		return step{frame: api.Frame{From: id(from.Addr, max(1, from.Inc-d.below(3)))}}
	case 1:
		return step{frame: api.Frame{From: id(from.Addr, d.below(7)-1)}}
	}
	mine := pick(d, me, me, me, me, id(1, 2), id(3, 1))
	kind := pick[uint8](d, ask, status, gossip, beat, beat, beat, reply, reply, reply, 255)
	f := sent(kind, from, id(mine.Addr, pick(d, mine.Inc, mine.Inc, mine.Inc, mine.Inc, 0, 2)), d.below(12))
	switch d.below(40) {
	case 0:
		f.From = pick(d, anyIDs()...)
	case 1:
		f.To = pick(d, anyIDs()...)
	case 2:
		f.N = pick(d, anyNumbers()...)
	}
	return step{f, mine}
}

// run is a drawn sequence of steps, in which newer lives come up one after another.
func run(seed draw, n int) []step {
	var l []step
	for i := range n {
		l = append(l, seed.drawn(1+i*7/n))
	}
	return l
}

// do does a step on links.
func (s step) do(l *link.Links) api.Errno {
	if s.frame.Kind == 0 {
		return l.Fence(s.frame.From)
	}
	return l.Take(s.frame, s.mine)
}

// P12.1: drawn runs, held against the model in each of their steps.
func TestRuns(t *testing.T) {
	counts := map[api.Errno]int{}
	for seed := range draw(60) {
		b := fresh()
		for _, s := range run(seed, 120) {
			if s.frame.Kind == 0 {
				b.fence(t, s.frame.From)
			} else {
				counts[b.take(t, s.frame, s.mine)]++
			}
			b.look(t, []int{1, 2, 3, 5, 12}, []int{0, 1, 2, 4, 5, 9}, []int{-1, 0, 1, 5, 9, 11, 12})
		}
		b.lookAtAll(t)
	}
	for _, e := range []api.Errno{api.OK, api.ErrForm, api.ErrOld, api.ErrState, api.ErrTwice} {
		if counts[e] < 100 {
			t.Errorf("error %d only %d times", int(e), counts[e])
		}
	}
}

// P12.1: all runs of a few steps, held against the model, each on a copy of the one before it.
func TestAllShortRuns(t *testing.T) {
	var frames []api.Frame
	for _, inc := range []int{1, 2} {
		frames = append(frames, sent(gossip, id(2, inc), me, 0))
		for n := range 3 {
			frames = append(frames, sent(beat, id(2, inc), me, n))
		}
		frames = append(frames, sent(reply, id(2, inc), me, 1))
	}
	frames = append(frames, sent(beat, id(3, 1), me, 1), sent(beat, id(2, 3), id(1, 2), 9))
	fences := []api.ID{id(2, 1), id(2, 2), id(3, 1)}
	look := func(b *both) { b.look(t, []int{2, 3}, []int{1, 2, 3}, []int{0, 1, 2, 3}) }
	var deeper func(b *both, left int)
	deeper = func(b *both, left int) {
		look(b)
		if left == 0 {
			return
		}
		for _, f := range frames {
			next := b.apart()
			next.take(t, f, me)
			deeper(next, left-1)
		}
		for _, x := range fences {
			next := b.apart()
			next.fence(t, x)
			deeper(next, left-1)
		}
		look(b)
	}
	deeper(fresh(), 4)
}

// P12.2: once a frame of an address is accepted, none of an older life is.
func TestNoOlderLife(t *testing.T) {
	for seed := range draw(300) {
		l, newest := link.New(), map[int]int{}
		for _, s := range run(seed, 150) {
			from := s.frame.From
			if e := s.do(l); s.frame.Kind != 0 && e == api.OK {
				if from.Inc < newest[from.Addr] {
					t.Fatalf("a frame from %v is accepted, after one from incarnation %d", from, newest[from.Addr])
				}
				newest[from.Addr] = from.Inc
			}
			if got := l.Newest(from.Addr); got != newest[from.Addr] {
				t.Fatalf("Newest(%d): %d, not %d", from.Addr, got, newest[from.Addr])
			}
		}
	}
}

// P12.3: nothing of a fenced life is accepted any more, and it stays fenced; links that were not told of the fence accept the same from newer ones.
func TestFencedPermanently(t *testing.T) {
	for seed := range draw(300) {
		steps := run(seed, 150)
		fence := id(2+int(seed%2), 1+int(seed%4))
		l, other := link.New(), link.New()
		for i, s := range steps {
			from := s.frame.From
			if i == 10 {
				l.Fence(fence)
			}
			got, want := s.do(l), s.do(other)
			fenced := i >= 10 && from.Addr == fence.Addr && from.Inc <= fence.Inc
			if s.frame.Kind != 0 && fenced && got == api.OK {
				t.Fatalf("a frame from %v is accepted, though %v is fenced", from, fence)
			}
			if i >= 10 && !l.Fenced(fence) {
				t.Fatalf("%v is no longer fenced", fence)
			}
			if !fenced && got != want {
				t.Fatalf("a frame from %v: error %d, not %d, since %v is fenced", from, int(got), int(want), fence)
			}
		}
	}
}

// P12.4: a Beat that was accepted is not accepted again, nor one with a lesser N, from that life; nor is a Reply.
func TestOnce(t *testing.T) {
	type life struct {
		kind uint8
		id   api.ID
	}
	for seed := range draw(300) {
		l, greatest := link.New(), map[life]int{}
		for _, s := range run(seed, 150) {
			if s.do(l) != api.OK || s.frame.Kind != beat && s.frame.Kind != reply {
				continue
			}
			of := life{s.frame.Kind, s.frame.From}
			if n, is := greatest[of]; is && s.frame.N <= n {
				t.Fatalf("Kind %d, N %d from %v is accepted, after N %d", of.kind, s.frame.N, of.id, n)
			}
			greatest[of] = s.frame.N
			for _, n := range append(anyNumbers(), s.frame.N-1, s.frame.N) {
				f := s.frame
				f.N = n
				if e := l.Copy().Take(f, s.mine); n <= s.frame.N && e != api.ErrTwice {
					t.Fatalf("Kind %d, N %d from %v, after N %d: error %d", of.kind, n, of.id, s.frame.N, int(e))
				}
			}
		}
	}
}

// P12.5: what comes from one address, or is fenced there, changes nothing for others: each has the answers that it has alone.
func TestIndependence(t *testing.T) {
	for seed := range draw(200) {
		steps := run(seed, 150)
		all := link.New()
		var answers []api.Errno
		for _, s := range steps {
			answers = append(answers, s.do(all))
		}
		for addr := 1; addr <= 12; addr++ {
			alone := link.New()
			for i, s := range steps {
				if s.frame.From.Addr != addr {
					continue
				}
				if e := s.do(alone); e != answers[i] {
					t.Fatalf("from %v: error %d, and alone %d", s.frame.From, int(answers[i]), int(e))
				}
			}
			if all.Newest(addr) != alone.Newest(addr) {
				t.Fatalf("Newest(%d): %d, and alone %d", addr, all.Newest(addr), alone.Newest(addr))
			}
			for inc := range 12 {
				if x := id(addr, inc); all.Fenced(x) != alone.Fenced(x) {
					t.Fatalf("Fenced(%v): %t, and alone %t", x, all.Fenced(x), alone.Fenced(x))
				}
			}
		}
	}
}
