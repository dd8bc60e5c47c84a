package entry_test

import (
	"slices"
	"testing"

	"covey/entry"
)

// P19.2: a copy tells what its original tells; what happens to one of them is not seen in the other one, nor in a copy of the copy.
func TestCopy(t *testing.T) {
	for d := range draw(300) {
		b := d.node(t)
		for range 12 {
			c := b.apart()
			if c.entry == nil || c.entry == b.entry {
				t.Fatal("a copy is nil, or no other one")
			}
			c.holds(t)
			e := c.apart()
			c.passes(t, d.below(9))
			if d.below(3) == 0 {
				c.answered(t)
			}
			b.holds(t)
			e.holds(t)
			b.tick(t)
			c.tick(t)
			e.passes(t, 2*e.model.retry)
			b.holds(t)
			c.holds(t)
			if d.below(9) == 0 {
				b.answered(t)
			}
			c.tick(t)
			e.tick(t)
		}
	}
}

// P19.2: each thing that happens, to a copy alone, and to what it was made of alone, of one that is new, asked, waits, is about to stand alone, does, or was answered.
func TestCopyEachThing(t *testing.T) {
	things := []func(b *both){
		func(*both) {},
		func(b *both) { b.tick(t) },
		func(b *both) { b.passes(t, 2) },
		func(b *both) { b.passes(t, 7) },
		func(b *both) { b.answered(t) },
		func(b *both) { b.tick(t); b.answered(t); b.tick(t) },
	}
	for retry := 1; retry <= 4; retry++ {
		for ahead := range 3*retry + 1 {
			for _, answers := range []int{0, 1} {
				for _, do := range things {
					for _, other := range things {
						b := fresh(t, id(2, 1), retry, 2, 1, 5)
						b.passes(t, ahead)
						for range answers {
							b.answered(t)
						}
						c := b.apart()
						do(c)
						b.holds(t)
						other(b)
						c.holds(t)
						do(b)
						other(c)
						b.passes(t, 2*retry)
						c.passes(t, 2*retry)
					}
				}
			}
		}
	}
}

// P19.2: copies of one, in turn, each from the same tick on.
func TestCopiesInTurn(t *testing.T) {
	for retry := 1; retry <= 5; retry++ {
		for ahead := range 2*retry + 1 {
			b := fresh(t, id(1, 4), retry, 1, 2)
			b.passes(t, ahead)
			copies := []*both{b, b.apart(), b.apart(), b.apart().apart()}
			for turn := range 3 * retry {
				for i, c := range copies {
					c.passes(t, i)
					if turn == i {
						c.answered(t)
					}
				}
			}
			for _, c := range copies {
				c.passes(t, 2*retry)
			}
		}
	}
}

// Nodes know nothing of each other.
func TestNodesApart(t *testing.T) {
	b, c := fresh(t, id(1, 1), 2, 1, 2), fresh(t, id(1, 1), 2, 1, 2)
	for n := range 30 {
		b.tick(t)
		c.holds(t)
		if n%3 == 0 {
			c.tick(t)
			b.holds(t)
		}
		if n == 20 {
			b.answered(t)
		}
	}
	fresh(t, id(1, 1), 2, 1, 2).passes(t, 5)
}

// mark is no address.
const mark = -77

// roomy is a list in new memory, with room for three more behind it, in which marks stand.
func roomy(l []int) []int {
	return append(slices.Clone(l), mark, mark, mark)[:len(l)]
}

// overwrite overwrites a list, and the room behind it, with an address.
func overwrite(l []int, with int) {
	l = l[:cap(l)]
	for i := range l {
		l[i] = with
	}
}

// P19.1: the Seeds that are given are not changed, and not kept: whom it asks, and whether it is the first seed, stays as it was, whatever is written over them.
func TestSeedsAreNotKept(t *testing.T) {
	for _, seeds := range [][]int{nil, {}, {1}, {2}, {1, 2}, {2, 1}, {1, 2, 2, 1, 3}, {0, 1, 13}, {3, 1, 2, 12}, {12, 11, 10, 9, 8, 7, 6, 5, 4, 3, 2, 1}} {
		for addr := 1; addr <= 4; addr++ {
			for _, with := range []int{addr, 6, 0, 13} {
				l := roomy(seeds)
				c := config(2)
				c.Seeds = l
				e, _ := entry.New(c, id(addr, 1))
				b := &both{e, &model{retry: 2, me: id(addr, 1), seeds: seeds}}
				if !slices.Equal(l[:len(seeds)+3], roomy(seeds)[:len(seeds)+3]) {
					t.Fatalf("the Seeds %v became %v", seeds, l[:len(seeds)+3])
				}
				d := b.apart()
				overwrite(l, with)
				b.passes(t, 7)
				overwrite(l, 5)
				b.passes(t, 7)
				d.passes(t, 7)
				b.apart().passes(t, 7)
			}
		}
	}
}

// P19.1: what is returned is new memory each time: what is written over it is not seen in what was returned before, or is returned later, of that node, or of its copies; nor in the Seeds.
func TestNewMemory(t *testing.T) {
	for _, seeds := range [][]int{{1}, {1, 2}, {2, 1}, {3, 1, 2}, {12, 3, 12, 1, 0, 7, 5}} {
		for addr := 1; addr <= 4; addr++ {
			l := roomy(seeds)
			c := config(1)
			c.Seeds = l
			e, _ := entry.New(c, id(addr, 1))
			b := &both{e, &model{retry: 1, me: id(addr, 1), seeds: seeds}}
			d := b.apart()
			want := b.model.whom()
			first, _ := b.tick(t)
			second, _ := b.tick(t)
			f := b.apart()
			third, _ := d.tick(t)
			overwrite(first, 6)
			if !slices.Equal(second, want) || !slices.Equal(third, want) {
				t.Fatalf("Seeds %v at %d: what was returned became %v, %v", seeds, addr, second, third)
			}
			overwrite(second, 6)
			if !slices.Equal(third, want) || !slices.Equal(l[:len(seeds)+3], roomy(seeds)[:len(seeds)+3]) {
				t.Fatalf("Seeds %v at %d: what was returned became %v, the Seeds %v", seeds, addr, third, l)
			}
			b.tick(t)
			overwrite(third, 6)
			for _, x := range []*both{b, d, f} {
				x.passes(t, 3)
			}
		}
	}
}
