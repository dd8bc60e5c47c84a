package walk_test

import (
	"cmp"
	"math"
	"slices"
	"testing"

	"covey/api"
	"covey/walk"
)

// The chapter's terms in another way than the package has them: numbers have 64 bits, and are cut by a remainder; a sequence is laid out from its end on, while those who are left close up; a walk is worked out anew, each time, of all that it was told. No other layer is taken on trust.

func id(addr, inc int) api.ID { return api.ID{Addr: addr, Inc: inc} }

// first are the IDs of some addresses, with incarnation 1.
func first(addrs ...int) []api.ID {
	var l []api.ID
	for _, addr := range addrs {
		l = append(l, id(addr, 1))
	}
	return l
}

// many are n IDs in increasing order.
func many(n int) []api.ID {
	l := make([]api.ID, n)
	for i := range l {
		l[i] = id(1+i/1000, 1+i%1000)
	}
	return l
}

// someIDs are IDs in order: several of one address, and those with the least and the greatest numbers among them.
func someIDs() []api.ID {
	return []api.ID{id(1, 1), id(1, 2), id(1, 1<<20), id(2, 1), id(3, 7), id(12, 1), id(12, 1<<20)}
}

// anyIDs are some in order that are not valid, and others.
func anyIDs() []api.ID {
	return []api.ID{id(math.MinInt, math.MaxInt), id(-1, 4), {}, id(0, 1), id(1, -1), id(1, 0), id(1, 1), id(12, 1<<20+1), id(13, 1), id(math.MaxInt, math.MinInt)}
}

// draws are draws at the ends, in the middle, and about those at which a product, or a sum, goes beyond 32 bits first.
func draws() []uint32 {
	return []uint32{
		0, 1, 2, 77, 1971, 1972, 2580, 2581, 65535, 65536, 65537, 123456789, math.MaxInt32, math.MaxInt32 + 1, math.MaxUint32 - 1, math.MaxUint32,
		634785765, 2142943008, 2124091365, 3440447461, 653637408, // these become 0, 65535, 65536, 4294901760, 4294967295
	}
}

func order(a, b api.ID) int {
	return cmp.Or(cmp.Compare(a.Addr, b.Addr), cmp.Compare(a.Inc, b.Inc))
}

// setOf is the set of a list.
func setOf(l []api.ID) []api.ID {
	l = slices.Clone(l)
	slices.SortFunc(l, order)
	return slices.Compact(l)
}

// becomes is what a draw becomes.
func becomes(draw uint64) uint64 { return (1664525*draw + 1013904223) % (1 << 32) }

// rowOf is a sequence of peers: of those who are left one is drawn for the last free place, and the last one of them closes the gap.
func rowOf(peers []api.ID, draw uint32) []api.ID {
	left, number := setOf(peers), uint64(draw)
	out := make([]api.ID, len(left))
	for len(left) > 1 {
		number = becomes(number)
		last := len(left) - 1
		at := number / (1 << 16) % uint64(len(left))
		out[last] = left[at]
		left[at] = left[last]
		left = left[:last]
	}
	copy(out, left)
	return out
}

// asked is what a walk was asked for the next peer.
type asked struct {
	peers []api.ID
	draw  uint32
}

// outcome is what the last call of some returns, how many are left then, and whether a sequence was made in it.
type outcome struct {
	id   api.ID
	is   bool
	left int
	made bool
}

// outcomeOf goes through all calls from a new walk on.
func outcomeOf(all []asked) outcome {
	var row []api.ID
	var o outcome
	for _, x := range all {
		o = outcome{is: len(x.peers) > 0}
		if !o.is {
			continue
		}
		at := slices.IndexFunc(row, func(y api.ID) bool { return slices.Contains(x.peers, y) })
		if at < 0 {
			row, at, o.made = rowOf(x.peers, x.draw), 0, true
		}
		o.id, row = row[at], row[at+1:]
	}
	o.left = len(row)
	return o
}

// both are a walk, and all that it was asked.
type both struct {
	walk *walk.Walk
	all  []asked
}

func fresh(t *testing.T) *both {
	t.Helper()
	w := walk.New()
	if w == nil || w.Left() != 0 {
		t.Fatalf("New: %v", w)
	}
	return &both{walk: w}
}

// apart is a copy of both.
func (b *both) apart() *both {
	return &both{b.walk.Copy(), slices.Clone(b.all)}
}

// next asks for the next peer, holds what comes of it against the model, and returns it.
func (b *both) next(t *testing.T, draw uint32, peers ...api.ID) outcome {
	t.Helper()
	b.all = append(b.all, asked{slices.Clone(peers), draw})
	got, is := b.walk.Next(peers, draw)
	want := outcomeOf(b.all)
	if got != want.id || is != want.is || b.walk.Left() != want.left {
		t.Fatalf("Next(%v, %d): %v, %t, %d left, not %v, of %v", peers, draw, got, is, b.walk.Left(), want, b.all)
	}
	return want
}

// holds holds against the model how many are left.
func (b *both) holds(t *testing.T) {
	t.Helper()
	if got, want := b.walk.Left(), outcomeOf(b.all).left; got != want {
		t.Fatalf("Left: %d, not %d, of %v", got, want, b.all)
	}
}

// round asks for the next peer as often as there are peers, and returns what was returned.
func (b *both) round(t *testing.T, draw uint32, peers ...api.ID) []api.ID {
	t.Helper()
	var l []api.ID
	for range peers {
		l = append(l, b.next(t, draw, peers...).id)
	}
	return l
}

// wants holds a list against the wanted one.
func wants(t *testing.T, what string, got []api.ID, want ...api.ID) {
	t.Helper()
	if !slices.Equal(got, want) {
		t.Fatalf("%s: %v, not %v", what, got, want)
	}
}

// checkRow holds a row against the model.
func checkRow(t *testing.T, peers []api.ID, draw uint32) {
	t.Helper()
	if got, want := walk.Row(peers, draw), rowOf(peers, draw); !slices.Equal(got, want) {
		t.Fatalf("Row(%v, %d): %v, not %v", peers, draw, got, want)
	}
}

// parts are all lists that hold some of a list, in its order.
func parts(l []api.ID) [][]api.ID {
	out := [][]api.ID{nil}
	for _, x := range l {
		for _, part := range slices.Clone(out) {
			out = append(out, append(slices.Clone(part), x))
		}
	}
	return out
}

// orders are all orders of a list.
func orders(l []api.ID) [][]api.ID {
	if len(l) == 0 {
		return [][]api.ID{nil}
	}
	var out [][]api.ID
	for i, x := range l {
		for _, rest := range orders(slices.Delete(slices.Clone(l), i, i+1)) {
			out = append(out, append([]api.ID{x}, rest...))
		}
	}
	return out
}

// without are those of a list that are not in another one.
func without(l, m []api.ID) []api.ID {
	return slices.DeleteFunc(slices.Clone(l), func(x api.ID) bool { return slices.Contains(m, x) })
}

// chance draws numbers from a fixed sequence.
type chance uint64

func (c *chance) below(n int) int {
	*c = *c*6364136223846793005 + 1442695040888963407
	return int(uint64(*c)>>20) % n
}

// draw draws a draw, now and then one at the ends.
func (c *chance) draw() uint32 {
	if c.below(4) == 0 {
		return draws()[c.below(len(draws()))]
	}
	return uint32(c.below(1 << 32))
}

// some draws some of a list: none, a few, or most of them, in its order.
func (c *chance) some(l []api.ID) []api.ID {
	in := c.below(5)
	return slices.DeleteFunc(slices.Clone(l), func(api.ID) bool { return c.below(4) >= in })
}

// mixed draws an order of a list, in which some stand twice or more.
func (c *chance) mixed(l []api.ID) []api.ID {
	l = append(slices.Clone(l), c.some(l)...)
	for i := range l {
		j := i + c.below(len(l)-i)
		l[i], l[j] = l[j], l[i]
	}
	return l
}

// under is a walk that is under way: with some peers, or others each time, so often.
func (c *chance) under(t *testing.T, peers []api.ID) *both {
	t.Helper()
	b := fresh(t)
	for range c.below(12) {
		l := peers
		if c.below(2) == 0 {
			l = c.some(peers)
		}
		b.next(t, c.draw(), l...)
	}
	return b
}
