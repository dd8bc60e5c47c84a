package watch_test

import (
	"math"
	"slices"
	"testing"

	"covey/api"
	"covey/watch"
)

// Bounds and a window that may not be: ErrArg, and no watch.
func TestNewWrong(t *testing.T) {
	for _, c := range [][3]int{
		{0, 5, 1}, {-1, 5, 1}, {math.MinInt, 5, 1}, {0, mostTime, mostTime},
		{1, 0, 1}, {1, -1, 1}, {1, mostTime + 1, 1}, {1, math.MaxInt, 1}, {mostTime, mostTime + 1, 1},
		{2, 1, 1}, {5, 4, 1}, {mostTime, 1, 1}, {mostTime, mostTime - 1, 1},
		{mostTime + 1, mostTime, 1}, {mostTime + 1, mostTime + 1, 1}, {math.MaxInt, math.MaxInt, 1},
		{0, 0, 1}, {-1, -1, 1}, {-2, -1, 1}, {math.MinInt, math.MaxInt, 1},
		{1, 5, 0}, {1, 5, -1}, {1, 5, math.MinInt}, {1, 5, mostTime + 1}, {1, 5, math.MaxInt}, {1, 1, 0}, {mostTime, mostTime, mostTime + 1},
		{0, 0, 0}, {0, 5, 0}, {5, 4, 0}, {mostTime + 1, mostTime + 1, mostTime + 1},
		{1<<32 + 1, 1<<32 + 2, 1}, {1, 1 << 32, 1}, {1, 1<<32 + 1, 1}, {1, 5, 1<<32 + 1},
	} {
		if w, e := watch.New(c[0], c[1], c[2]); w != nil || e != api.ErrArg {
			t.Errorf("New(%v): %v, error %d", c, w, int(e))
		}
	}
}

// Each choice of numbers in their range and beyond it: which ones are refused.
func TestNewAll(t *testing.T) {
	valid := []int{1, 2, 7, mostTime - 1, mostTime}
	numbers := append([]int{math.MinInt, -mostTime, -1, 0, mostTime + 1, 1 << 32, 1<<32 + 1, math.MaxInt}, valid...)
	for _, min := range numbers {
		for _, max := range numbers {
			for _, window := range numbers {
				want := api.ErrArg
				if slices.Contains(valid, min) && slices.Contains(valid, max) && slices.Contains(valid, window) && min <= max {
					want = api.OK
				}
				if w, e := watch.New(min, max, window); e != want || (w == nil) != (want != api.OK) {
					t.Errorf("New(%d, %d, %d): %v, error %d", min, max, window, w, int(e))
				}
			}
		}
	}
}

// Of nil: none, false, nil.
func TestNil(t *testing.T) {
	var w *watch.Watch
	for range 2 {
		for _, now := range append(ends(), 5, 5000) {
			for _, ids := range append(parts(first(1, 2)), someIDs()) {
				wants(t, "Look of nil", w.Look(ids, now))
			}
			for _, x := range append(someIDs(), api.ID{}) {
				if w.Heard(x, now) {
					t.Errorf("Heard(%v, %d) of nil: true", x, now)
				}
			}
			wants(t, "Watched of nil", w.Watched())
			if c := w.Copy(); c != nil {
				t.Errorf("Copy of nil: %v", c)
			}
		}
	}
}

// A watch that New did not make, but that is not nil either, comes back.
func TestZero(t *testing.T) {
	for _, w := range []*watch.Watch{{}, (&watch.Watch{}).Copy()} {
		wants(t, "Watched", w.Watched())
		if w.Heard(id(1, 1), 3) {
			t.Error("Heard: true")
		}
		for _, now := range append(ends(), 5, 50, 4) {
			w.Look(first(1, 2), now)
			w.Heard(id(1, 1), now)
			w.Look(first(2, 3), now)
			w.Copy().Look(nil, now)
			w.Watched()
		}
	}
}

// An absent list is one of nobody.
func TestNobody(t *testing.T) {
	for _, none := range [][]api.ID{nil, {}, first(1, 2)[:0]} {
		b := fresh(t, 1, 4, 2)
		b.look(t, 1, first(1, 2)...)
		wants(t, "Look at nobody", b.look(t, 9, none...))
		wants(t, "Watched", b.watch.Watched())
		b.heard(t, id(1, 1), 9)
		wants(t, "Look at nobody", b.look(t, 20, none...))
		wants(t, "like new", b.look(t, 20, first(1, 2)...))
	}
}

// Lists that do not increase, or hold an ID twice, or one that is not valid, come back, are not changed, and are answered in the same way each time.
func TestAnyList(t *testing.T) {
	ids := append(someIDs(), api.ID{}, id(13, 1), id(-1, 4), id(1, 0), id(math.MinInt, math.MaxInt), id(math.MaxInt, math.MinInt))
	for seed := range draw(300) {
		b, now := seed.watch(t), 5
		one, other := b.watch, b.watch.Copy()
		for range 20 {
			now += seed.gap()
			l := make([]api.ID, seed.below(12))
			for i := range l {
				l[i] = pick(&seed, ids...)
			}
			x, was := pick(&seed, ids...), slices.Clone(l)
			wants(t, "Look, as in a copy", one.Look(l, now), other.Look(l, now)...)
			wants(t, "Watched, as in a copy", one.Watched(), other.Watched()...)
			wants(t, "the list that was looked at", l, was...)
			if one.Heard(x, now) != other.Heard(x, now) {
				t.Fatalf("Heard(%v, %d) is other in a copy", x, now)
			}
		}
	}
}

// What is answered does not depend on the order in which somebody was looked at first.
func TestOrderOfLooks(t *testing.T) {
	for seed := range draw(100) {
		b := fresh(t, 1, 3, 1)
		var ids []api.ID
		for _, x := range seed.order(someIDs()) {
			ids = append(ids, x)
			slices.SortFunc(ids, func(x, y api.ID) int { return slices.Index(someIDs(), x) - slices.Index(someIDs(), y) })
			b.look(t, 0, ids...)
		}
		for range 3 {
			wants(t, "Watched", b.watch.Watched(), someIDs()...)
			wants(t, "Look", b.look(t, 4, someIDs()...), someIDs()...)
		}
	}
}
