package watch_test

import (
	"math"
	"slices"
	"testing"

	"covey/accrual"
	"covey/api"
	"covey/watch"
)

// A model keeps all that it was ever told, and works out anew each time who is watched, and who is late: what was told since somebody is watched is told to a new detector, which is then asked once.

const (
	mostTime   = 4096
	mostNumber = 1 << 40
)

func id(addr, inc int) api.ID { return api.ID{Addr: addr, Inc: inc} }

// first are the IDs of some addresses, with incarnation 1.
func first(addrs ...int) []api.ID {
	var l []api.ID
	for _, addr := range addrs {
		l = append(l, id(addr, 1))
	}
	return l
}

// someIDs are IDs in order: several of one address, and those with the least and the greatest numbers among them.
func someIDs() []api.ID {
	return []api.ID{id(1, 1), id(1, 2), id(1, 1<<20), id(2, 1), id(3, 7), id(11, 1<<20), id(12, 1), id(12, 1<<20)}
}

// parts are all lists that hold some of a list, in its order.
func parts(l []api.ID) [][]api.ID {
	out := [][]api.ID{nil}
	for _, x := range l {
		for _, part := range slices.Clone(out) {
			out = append(out, append(slices.Clone(part), x))
		}
	}
	return out
}

// without are those of a list that are not in another one.
func without(l, m []api.ID) []api.ID {
	return slices.DeleteFunc(slices.Clone(l), func(x api.ID) bool { return slices.Contains(m, x) })
}

// told is a look at somebody, or at nobody; or one who was heard.
type told struct {
	look bool
	ids  []api.ID
	now  int
}

type model struct {
	min, max, window int
	all              []told
}

// since is all that was told from the look on from which somebody is watched; nothing, if that one is not watched.
func (m *model) since(id api.ID) []told {
	from := len(m.all)
	for i, x := range slices.Backward(m.all) {
		if x.look && !slices.Contains(x.ids, id) {
			break
		}
		if x.look {
			from = i
		}
	}
	return m.all[from:]
}

// watched are those of the last look.
func (m *model) watched() []api.ID {
	for _, x := range slices.Backward(m.all) {
		if x.look {
			return x.ids
		}
	}
	return nil
}

// isLate asks a detector that is new, and is told what somebody's own one was told.
func (m *model) isLate(id api.ID, now int) bool {
	d, _ := accrual.New(m.min, m.max, m.window)
	for _, x := range m.since(id) {
		switch {
		case x.look:
			d.Begin(x.now) // of several looks the first one counts
		case x.ids[0] == id:
			d.Heard(x.now)
		}
	}
	return d.Late(now)
}

// late are those who are watched and late.
func (m *model) late(now int) []api.ID {
	return slices.DeleteFunc(slices.Clone(m.watched()), func(x api.ID) bool { return !m.isLate(x, now) })
}

// both are a watch, and a model that is told the same.
type both struct {
	watch *watch.Watch
	model *model
}

func fresh(t *testing.T, min, max, window int) *both {
	t.Helper()
	w, e := watch.New(min, max, window)
	if w == nil || e != api.OK {
		t.Fatalf("New(%d, %d, %d): %v, error %d", min, max, window, w, int(e))
	}
	return &both{w, &model{min: min, max: max, window: window}}
}

// apart is a copy of both.
func (b *both) apart() *both {
	m := *b.model
	m.all = slices.Clone(m.all)
	return &both{b.watch.Copy(), &m}
}

// look looks, holds what comes of it against the model, and returns it.
func (b *both) look(t *testing.T, now int, ids ...api.ID) []api.ID {
	t.Helper()
	b.model.all = append(b.model.all, told{true, slices.Clone(ids), now})
	got := b.watch.Look(ids, now)
	if want := b.model.late(now); !slices.Equal(got, want) {
		t.Fatalf("of %v Look(%v, %d): %v, not %v", b.model, ids, now, got, want)
	}
	b.holds(t)
	return got
}

// heard hears somebody at some times, one after the other, and holds against the model whether it is watched.
func (b *both) heard(t *testing.T, id api.ID, nows ...int) {
	t.Helper()
	for _, now := range nows {
		b.model.all = append(b.model.all, told{false, []api.ID{id}, now})
		if got, want := b.watch.Heard(id, now), slices.Contains(b.model.watched(), id); got != want {
			t.Fatalf("of %v Heard(%v, %d): %t", b.model, id, now, got)
		}
		b.holds(t)
	}
}

// holds holds against the model who is watched.
func (b *both) holds(t *testing.T) {
	t.Helper()
	if got, want := b.watch.Watched(), b.model.watched(); !slices.Equal(got, want) {
		t.Fatalf("of %v Watched: %v, not %v", b.model, got, want)
	}
}

// at asks who is late at some times, a copy each, so that nothing is changed by that.
func (b *both) at(t *testing.T, nows ...int) {
	t.Helper()
	b.holds(t)
	for _, now := range nows {
		if got, want := b.watch.Copy().Look(b.model.watched(), now), b.model.late(now); !slices.Equal(got, want) {
			t.Fatalf("of %v late at %d: %v, not %v", b.model, now, got, want)
		}
	}
}

// lateFrom holds the first time at which somebody is late against this one: at that it is, and at the one before it is not.
func (b *both) lateFrom(t *testing.T, id api.ID, now int) {
	t.Helper()
	b.at(t, now-1, now)
	before, then := b.watch.Copy().Look(b.model.watched(), now-1), b.watch.Copy().Look(b.model.watched(), now)
	if slices.Contains(before, id) || !slices.Contains(then, id) {
		t.Fatalf("of %v is %v late from %d on? At %d: %v; at %d: %v", b.model, id, now, now-1, before, now, then)
	}
}

// wants holds a list against the wanted one.
func wants(t *testing.T, what string, got []api.ID, want ...api.ID) {
	t.Helper()
	if !slices.Equal(got, want) {
		t.Fatalf("%s: %v, not %v", what, got, want)
	}
}

// ends are times at the ends of what counts, and beyond them.
func ends() []int {
	return []int{math.MinInt, math.MinInt + 1, -1 << 40, -1, 0, 1, mostNumber - 1, mostNumber, mostNumber + 1, math.MaxInt - 1, math.MaxInt}
}

// draw draws numbers from a fixed sequence.
type draw uint64

func (d *draw) below(n int) int {
	*d = *d*6364136223846793005 + 1442695040888963407
	return int(uint64(*d)>>20) % n
}

// pick draws one thing of a list.
func pick[T any](d *draw, of ...T) T { return of[d.below(len(of))] }

// some draws some of a list: none, a few, or most of them, in its order.
func (d *draw) some(l []api.ID) []api.ID {
	in := d.below(5)
	return slices.DeleteFunc(slices.Clone(l), func(api.ID) bool { return d.below(4) >= in })
}

// order draws an order of a list.
func (d *draw) order(l []api.ID) []api.ID {
	l = slices.Clone(l)
	for i := range l {
		j := i + d.below(len(l)-i)
		l[i], l[j] = l[j], l[i]
	}
	return l
}

// watch draws bounds and a window, mostly small ones.
func (d *draw) watch(t *testing.T) *both {
	t.Helper()
	low := pick(d, 1, 1, 2, 3, 5, 20, mostTime)
	high := min(mostTime, pick(d, low, low+1, 2*low, 7*low, mostTime))
	return fresh(t, low, high, pick(d, 1, 2, 3, 4, 7, mostTime))
}

// gap draws how much later something is, mostly a little; now and then it is earlier.
func (d *draw) gap() int {
	return pick(d, 0, 0, 1, 1, 2, d.below(6), d.below(30), d.below(5000), -d.below(9))
}

// step looks at some IDs, or hears one of them, or one that may not be watched, and returns when that was.
func (b *both) step(t *testing.T, d *draw, ids []api.ID, now int) int {
	t.Helper()
	now += d.gap()
	switch d.below(8) {
	case 0:
		b.look(t, now, d.some(ids)...)
	case 1, 2:
		b.look(t, now, b.model.watched()...)
	case 3:
		b.look(t, now, ids...)
	default:
		b.heard(t, pick(d, ids...), now)
	}
	return now
}
