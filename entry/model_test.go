package entry_test

import (
	"maps"
	"math"
	"slices"
	"testing"

	"covey/api"
	"covey/entry"
)

// A model keeps all that happened to a node, and works out anew each time, by the chapter's words, whom it asks, and whether it stands alone. No other layer is taken on trust.

const (
	mostAddr = 12
	mostInc  = 1 << 20
	mostTime = 4096
)

func id(addr, inc int) api.ID { return api.ID{Addr: addr, Inc: inc} }

// happened is what happened to a node: a tick, or that a seed answered.
type happened bool

const (
	tick   happened = false
	answer happened = true
)

type model struct {
	retry int
	me    api.ID
	seeds []int
	all   []happened
}

// ticks is how many ticks there were.
func (m *model) ticks() int {
	n := 0
	for _, x := range m.all {
		if x == tick {
			n++
		}
	}
	return n
}

// whom is whom it asks when it does: the place at which an address is first in the Seeds tells its place among them.
func (m *model) whom() []int {
	first := map[int]int{}
	for at, addr := range slices.Backward(m.seeds) {
		first[addr] = at
	}
	maps.DeleteFunc(first, func(addr, _ int) bool { return addr == m.me.Addr || addr <= 0 || addr > mostAddr })
	places := slices.Sorted(maps.Values(first))
	for i, at := range places {
		places[i] = m.seeds[at]
	}
	return places
}

// asks is whom it asks in the last tick.
func (m *model) asks() []int {
	n := m.ticks()
	for n > 1 {
		n -= m.retry
	}
	if n < 1 {
		return nil
	}
	return m.whom()
}

// alone is whether it stands alone in the last tick.
func (m *model) alone() bool {
	return !slices.Contains(m.all, answer) && m.ticks()/2 >= m.retry && slices.Index(m.seeds, m.me.Addr) == 0
}

// both are a node, and a model that goes through the same.
type both struct {
	entry *entry.Entry
	model *model
}

func config(retry int, seeds ...int) api.Config { return api.Config{Retry: retry, Seeds: seeds} }

func fresh(t *testing.T, me api.ID, retry int, seeds ...int) *both {
	t.Helper()
	e, err := entry.New(config(retry, seeds...), me)
	if e == nil || err != api.OK {
		t.Fatalf("New(%d, %v, %v): %v, error %d", retry, seeds, me, e, int(err))
	}
	b := &both{e, &model{retry: retry, me: me, seeds: slices.Clone(seeds)}}
	b.holds(t)
	return b
}

// apart is a copy of both.
func (b *both) apart() *both {
	m := *b.model
	m.all = slices.Clone(m.all)
	return &both{b.entry.Copy(), &m}
}

// holds holds against the model how many ticks there were.
func (b *both) holds(t *testing.T) {
	t.Helper()
	if got, want := b.entry.Ticks(), b.model.ticks(); got != want {
		t.Fatalf("of %v Ticks: %d, not %d", b.model, got, want)
	}
}

// tick performs a tick, holds what it returns against the model, and returns that.
func (b *both) tick(t *testing.T) ([]int, bool) {
	t.Helper()
	b.model.all = append(b.model.all, tick)
	asks, alone := b.entry.Tick()
	if !slices.Equal(asks, b.model.asks()) || alone != b.model.alone() {
		t.Fatalf("of %v tick %d: asks %v, alone: %t; not %v, %t", b.model, b.model.ticks(), asks, alone, b.model.asks(), b.model.alone())
	}
	b.holds(t)
	return asks, alone
}

// passes performs some ticks.
func (b *both) passes(t *testing.T, n int) {
	t.Helper()
	for range n {
		b.tick(t)
	}
}

func (b *both) answered(t *testing.T) {
	t.Helper()
	b.model.all = append(b.model.all, answer)
	b.entry.Answered()
	b.holds(t)
}

// wants performs a tick, and holds what it returns against the wanted one, too.
func (b *both) wants(t *testing.T, alone bool, asks ...int) {
	t.Helper()
	if a, is := b.tick(t); !slices.Equal(a, asks) || is != alone {
		t.Fatalf("of %v tick %d: asks %v, alone: %t; not %v, %t", b.model, b.model.ticks(), a, is, asks, alone)
	}
}

// noAddrs are numbers that are no addresses: next to them, far from them, and such that are addresses in fewer bits.
func noAddrs() []int {
	return []int{0, -1, -2, -12, math.MinInt, math.MinInt + 1, 13, 14, 64, 256 + 1, 1<<16 + 2, 1 << 32, 1<<32 + 1, 1<<32 + 12, math.MaxInt - 1, math.MaxInt}
}

// lists are all lists of up to so many of some numbers, each of them at any place, and as often as one likes.
func lists(numbers []int, most int) [][]int {
	out := [][]int{nil}
	for from := 0; most > 0; most-- {
		to := len(out)
		for _, l := range out[from:to] {
			for _, x := range numbers {
				out = append(out, append(slices.Clone(l), x))
			}
		}
		from = to
	}
	return out
}

// orders are all orders of a list.
func orders(l []int) [][]int {
	if len(l) == 0 {
		return [][]int{nil}
	}
	var out [][]int
	for i, x := range l {
		for _, rest := range orders(slices.Delete(slices.Clone(l), i, i+1)) {
			out = append(out, append([]int{x}, rest...))
		}
	}
	return out
}

// draw draws numbers from a fixed sequence.
type draw uint64

func (d *draw) below(n int) int {
	*d = *d*6364136223846793005 + 1442695040888963407
	return int(uint64(*d)>>20) % n
}

// pick draws one thing of a list.
func pick[T any](d *draw, of ...T) T { return of[d.below(len(of))] }

// seeds draws a list: addresses, now and then other numbers, some of them several times.
func (d *draw) seeds() []int {
	l := make([]int, d.below(7))
	most := pick(d, 3, 5, mostAddr)
	for i := range l {
		l[i] = 1 + d.below(most)
		if d.below(9) == 0 {
			l[i] = pick(d, noAddrs()...)
		}
	}
	return l
}

// node draws a node, mostly with a small Retry, and often at the first one of its Seeds.
func (d *draw) node(t *testing.T) *both {
	t.Helper()
	seeds := d.seeds()
	addr := 1 + d.below(mostAddr)
	if len(seeds) > 0 && 1 <= seeds[0] && seeds[0] <= mostAddr && d.below(3) > 0 {
		addr = seeds[0]
	}
	return fresh(t, id(addr, pick(d, 1, 2, 7, mostInc)), pick(d, 1, 1, 2, 2, 3, 3, 4, 5, 8, 13), seeds...)
}
